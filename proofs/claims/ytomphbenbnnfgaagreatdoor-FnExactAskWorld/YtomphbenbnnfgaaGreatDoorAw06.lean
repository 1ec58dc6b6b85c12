/-
  Texts of this proof in one: WorldPlain, OwnNetResult, StoreKit, NetKit, OwnChainResult, ChainKit, WorldOK, WorldSt, RowPut, WorldApp, OwnNodeResult, NodeFew, WorldPut, ImplNodeId, ImplEpoch, PartReads, ImplChainF, ImplUpTo, NodeEqs, AppWrite, ImplTell, VecOf, ImplDeed, ListC, ImplWOf, ImplWOfA, LayOpen, ImplStory.
  Their conditions stand in their theorems.
-/
import Derived.Test.YtomphbenbnnfgaaGreatDoorAw01
import Derived.Test.YtomphbenbnnfgaaGreatDoorAw03
import Derived.Test.YtomphbenbnnfgaaGreatDoorAw05
import Derived.Test.YtomphbenbnnfgaaGreatDoorAw00
import Derived.Test.YtomphbenbnnfgaaGreatDoorChecked
import Derived.WalkKit
import Derived.ArgAppend
import Derived.Deep.CutRange
import Derived.Test.YtomphbenbnnfgaaGreatDoorAw04
import Derived.Deep.RegionHeld3
import Derived.WalkSmall
import Derived.Outline
import Derived.ProofKit
import Derived.OpenShut
import Derived.Deep.Slices
import Derived.Carry
set_option maxRecDepth 100000
set_option maxHeartbeats 4000000
namespace Go.Proofs.YtomphbenbnnfgaaGreatDoor
open Go.RowKit
def cz (x : ay) (id : Int) : Bool := decide (1 ≤ id) && decide (id ≤ (x.nodes.length : Int))
def cE (c : bQ) : Nat → List aV → Int
 | _, [] => 0
 | i, n :: ns =>
  if aJ n ≠ 0 then aJ n
  else if n.id ≠ (i : Int) + 1 then 1
  else if c.ae < n.ae ∨ (n.up = true ∧ 0 ≤ bK c.ids n.id ∧ n.ae ≠ c.ae) then 7
  else cE c (i + 1) ns
def bN (x : ay) : Int :=
 if cE x.chain 0 x.nodes ≠ 0 then cE x.chain 0 x.nodes
 else if x.chain.ids.all (cz x) then 0 else 4
def gr (x : ay) (e : bj) : Bool :=
 (decide (1 ≤ e.kind) && decide (e.kind ≤ 3)) && ((decide (1 ≤ e.start) && decide (e.start ≤ x.events)) && ((e.fin == 0 || (decide (e.start ≤ e.fin) && decide (e.fin ≤ x.events))) && (decide (0 ≤ e.place) && decide (e.place ≤ 40))))
def aW (x : ay) : Int :=
 if ¬ (0 ≤ x.now ∧ x.now ≤ 9000) ∨ ¬ (0 ≤ x.events ∧ x.events ≤ 9999) then 3
 else if aX x.chain ≠ 0 then aX x.chain
 else if x.nodes.length < 1 ∨ 5 < x.nodes.length then 2
 else if bN x ≠ 0 then bN x
 else if bd x.msgs ≠ 0 then bd x.msgs
 else if 60 < x.af.length then 2
 else if x.af.all (gr x) then 0 else 3
def eP : ay := ⟨0, 0, pY, [], [], []⟩
def cm (c : Int) : bk := ⟨c, false, eP⟩
def ct (x : ay) (id : Int) : aV := x.nodes.getD (id - 1).toNat iy
def cT (x : ay) (id : Int) : Bool := (ct x id).up && ((ct x id).ae == x.chain.ae && decide (0 ≤ bK x.chain.ids id))
def cI (x : ay) : ay := ⟨x.now, x.events + 1, x.chain, x.nodes, x.msgs, x.af⟩
def dA (x : ay) (n : aV) : ay := ⟨x.now, x.events, x.chain, x.nodes.set (n.id - 1).toNat n, x.msgs, x.af⟩
def cA (s q : Int) (e : bj) : Bool := e.kind == 1 && (e.aa == s && e.seq == q)
def takeN (n : aV) (y : aj) : Int × aV :=
 if (bF n.writes y).code = 0 then (if 40 < (bF n.writes y).writes.length then (2, n) else (0, ca n (bF n.writes y).writes)) else ((bF n.writes y).code, n)
def cP (y : aj) (at' : Int) : bj := ⟨1, y.aa, y.seq, y.id, [], 0, at', 0, 0, [], []⟩
def ib (x : ay) (y : aj) : bk :=
 if aW x ≠ 0 then cm (aW x)
 else if 9999 ≤ x.events then cm 2
 else if wF y ≠ 0 then cm (wF y)
 else if cT x (x.chain.ids.getD 0 0) = false then cm 10
 else if (takeN (ct x (x.chain.ids.getD 0 0)) y).1 ≠ 0 then cm (takeN (ct x (x.chain.ids.getD 0 0)) y).1
 else if x.af.any (cA y.aa y.seq) then ⟨0, true, dA (cI x) (takeN (ct x (x.chain.ids.getD 0 0)) y).2⟩
 else if 60 ≤ x.af.length then cm 2
 else ⟨0, true, { dA (cI x) (takeN (ct x (x.chain.ids.getD 0 0)) y).2 with af := x.af ++ [cP y (x.events + 1)] }⟩
theorem ji (c : bQ) : ∀ (i : Nat) (ns : List aV), 0 ≤ cE c i ns ∧ cE c i ns ≤ 10
 | _, [] => by simp [cE]
 | i, n :: ns => by
  have h1 := gg n
  have h2 := ji c (i + 1) ns
  rw [cE]
  split
  ·
   omega
  split
  ·
   omega
  split
  ·
   omega
  exact h2
theorem jv (x : ay) : 0 ≤ bN x ∧ bN x ≤ 10 := by
 have := ji x.chain 0 x.nodes
 unfold bN
 split
 ·
  omega
 split <;> omega
theorem fR (x : ay) (hc : 0 ≤ aX x.chain ∧ aX x.chain ≤ 6) : 0 ≤ aW x ∧ aW x ≤ 10 := by
 have h1 := jv x
 have h2 := kU x.msgs
 unfold aW
 repeat' split
 all_goals omega
theorem uF {α : Type} {A : ab α} {w4 : World} {s : Nat} {cs vs : List Value} {y : α} {lo hi : Nat} (h : A.cr w4 cs y lo hi) (hs : s < lo) : A.cr (aG w4 s 0 vs) cs y lo hi :=
 h.ext (bb (fun q => q = s) (Ext.refl _ _) _ _ _ rfl) (fun q h1 h2 h3 => by omega)
theorem gK {α : Type} {A : ab α} {w4 : World} {s : Nat} {cs vs : List Value} {y : α} {lo hi : Nat} (h : A.aN w4 cs y lo hi) (hs : s < lo) : A.aN (aG w4 s 0 vs) cs y lo hi :=
 h.ext (bb (fun q => q = s) (Ext.refl _ _) _ _ _ rfl) (fun q h1 h2 h3 => by omega)
theorem fO {α : Type} {A : ab α} {w : World} {lo hi : Nat} : (ab.sl A).aN w [.slice none 0 0] [] lo hi := ⟨[], ⟨⟨none, 0, rfl, by simp, Or.inl ⟨rfl, rfl⟩⟩, by simp, by simp⟩, by simp⟩
theorem tD {x : bP} (h : aL x = 0) : x.write.vec.length ≤ 100000000 := by
 unfold aL at h
 split at h
 ·
  simp at h
 rename_i h1
 split at h
 ·
  simp at h
 split at h
 ·
  rename_i h3
  have h4 : mQ x.write := Decidable.byContradiction fun q => h1 (Or.inr (Or.inr ⟨h3, q⟩))
  have := h4.2.2.2.2
  omega
 obtain ⟨-, -, -, hk⟩ := bW h
 rcases hk with ⟨-, hv⟩ | ⟨-, hv⟩
 ·
  have := (cy hv).1; omega
 rw [hv]; simp
theorem rZ {xs : List bP} (h : bd xs = 0) : ∀ x ∈ xs, x.write.vec.length ≤ 100000000 := fun x hx => tD ((dx h).2 x hx)
theorem eB {w : World} {b off cap k : Nat} {zs : List Int} (h : (ab.sl ab.int).Reads w [.slice (some ⟨b, off, none⟩) zs.length cap] zs) (hk : k < zs.length) : w.cell? ⟨b, off + k, none⟩ = some (.int .i64 zs[k]) := by
 obtain ⟨bl, h⟩ := h
 obtain ⟨ao, cp, e, -, -, h⟩ := ab.dY.1 h
 simp only [Value.slice.injEq] at e
 obtain ⟨rfl, -, rfl⟩ := e
 rcases h with ⟨rfl, -⟩ | ⟨b', off', e2, -, -, hj⟩
 ·
  simp at hk
 simp only [Option.some.injEq, Addr.mk.injEq, and_true] at e2
 obtain ⟨rfl, rfl⟩ := e2
 rw [hj k hk]
 simp [List.getD, hk]
structure ej (x : ay) : Prop where
 now : 0 ≤ x.now ∧ x.now ≤ 9000
 events : 0 ≤ x.events ∧ x.events ≤ 9999
 chain : aX x.chain = 0
 some : 1 ≤ x.nodes.length ∧ x.nodes.length ≤ 5
 nodes : ∀ k (h : k < x.nodes.length), aJ x.nodes[k] = 0 ∧ x.nodes[k].id = (k : Int) + 1 ∧ x.nodes[k].ae ≤ x.chain.ae
 ids : ∀ z ∈ x.chain.ids, cz x z = true
 vz : bd x.msgs = 0
 uQ : x.af.length ≤ 60
 told : ∀ e ∈ x.af, gr x e = true
theorem jb (c : bQ) : ∀ (ns : List aV) (i : Nat), cE c i ns = 0 → ∀ k (h : k < ns.length), aJ ns[k] = 0 ∧ ns[k].id = ((i + k : Nat) : Int) + 1 ∧ ns[k].ae ≤ c.ae
 | [], _, _, k, h => by simp at h
 | n :: ns, i, h0, k, h => by
  rw [cE] at h0
  split at h0
  ·
   rename_i q; exact absurd h0 q
  rename_i q1
  split at h0
  ·
   simp at h0
  rename_i q2
  split at h0
  ·
   simp at h0
  rename_i q3
  cases k with
  | zero => exact ⟨by simpa using q1, by simpa using q2, by
    have : ¬ c.ae < n.ae := fun q => q3 (Or.inl q)
    simp
    omega⟩
  | succ k =>
   have := jb c ns (i + 1) h0 k (by simpa using h)
   obtain ⟨a1, a2, a3⟩ := this
   refine ⟨by simpa using a1, ?_, by simpa using a3⟩
   simp only [List.getElem_cons_succ]
   rw [a2]
   omega
theorem cW {x : ay} (h : aW x = 0) : ej x := by
 unfold aW at h
 split at h
 ·
  simp at h
 rename_i h1
 split at h
 ·
  rename_i q; exact absurd h q
 rename_i h2
 split at h
 ·
  simp at h
 rename_i h3
 split at h
 ·
  rename_i q; exact absurd h q
 rename_i h4
 split at h
 ·
  rename_i q; exact absurd h q
 rename_i h5
 split at h
 ·
  simp at h
 rename_i h6
 split at h
 ·
  rename_i h7
  have h4' : bN x = 0 := by simpa using h4
  unfold bN at h4'
  have h8 : cE x.chain 0 x.nodes = 0 ∧ x.chain.ids.all (cz x) = true := by
   split at h4'
   ·
    rename_i q; exact absurd h4' q
   rename_i q
   split at h4'
   ·
    rename_i q2; exact ⟨by simpa using q, q2⟩
   simp at h4'
  refine ⟨by omega, by omega, by simpa using h2, by omega, fun k hk => ?_, fun z hz => List.all_eq_true.1 h8.2 z hz, by simpa using h5, by omega, fun e he => List.all_eq_true.1 h7 e he⟩
  have := jb x.chain x.nodes 0 h8.1 k hk
  simpa using this
 simp at h
def Fits (x : ay) : Prop := ∀ e ∈ x.af, e.query.length ≤ 10000000 ∧ e.vec.length ≤ 10000000 ∧ e.aY.length ≤ 10000000
theorem km {x : ay} (h : ab.aF.sz x ≤ 1048576) : Fits x := fun e he => by
 have h1 : ab.aF.sz x = 0 + (0 + (ab.aH.sz x.chain + ((ab.sl ab.ax).sz x.nodes + ((ab.sl ab.aQ).sz x.msgs + (ab.sl ab.ar).sz x.af)))) := rfl
 obtain ⟨j, hj, rfl⟩ := List.getElem_of_mem he
 have h2 := ab.gv (A := ab.ar) hj
 have h3 : ab.ar.sz x.af[j] = 0 + (0 + (0 + (0 + ((ab.sl ab.int).sz x.af[j].query + (0 + (0 + (0 + (0 + ((ab.sl ab.int).sz x.af[j].vec + (ab.sl ab.bq).sz x.af[j].aY))))))))) := rfl
 have h4 := ab.fX (A := ab.int) (xs := x.af[j].query)
 have h5 := ab.fX (A := ab.int) (xs := x.af[j].vec)
 have h6 := ab.fX (A := ab.bq) (xs := x.af[j].aY)
 omega
theorem jD {w : World} {cs : List Value} {x : ay} (h : ab.aF.Reads w cs x) : (Lit.int .i64 x.now).wf = true ∧ (Lit.int .i64 x.events).wf = true ∧ (Lit.int .i64 x.chain.ae).wf = true := by
 obtain ⟨bl, h⟩ := h
 obtain ⟨_, _, _, _, _, _, _, _, _, _, _, _, -, -, w0, w1, w2, -⟩ := db.1 h
 exact ⟨w0, w1, w2⟩
theorem kx {w : World} {x : ay} {v3 v4 v5 v6 : Value} {l3 h3 l4 h4 l5 h5 l6 h6 : Nat} (p3 : (ab.sl ab.int).aN w [v3] x.chain.ids l3 h3) (p4 : (ab.sl ab.ax).aN w [v4] x.nodes l4 h4) (p5 : (ab.sl ab.aQ).aN w [v5] x.msgs l5 h5) (p6 : (ab.sl ab.ar).aN w [v6] x.af l6 h6)
  (e1 : h3 ≤ l4) (e2 : h4 ≤ l5) (e3 : h5 ≤ l6) (e4 : l3 ≤ h3) (e5 : l4 ≤ h4) (e6 : l5 ≤ h5) (e7 : l6 ≤ h6) (hw : (Lit.int .i64 x.now).wf = true ∧ (Lit.int .i64 x.events).wf = true ∧ (Lit.int .i64 x.chain.ae).wf = true) :
  ab.aF.aN w [.int .i64 x.now, .int .i64 x.events, .int .i64 x.chain.ae, v3, v4, v5, v6] x l3 h6 := by
 obtain ⟨b3, O3, i3⟩ := p3
 obtain ⟨b4, O4, i4⟩ := p4
 obtain ⟨b5, O5, i5⟩ := p5
 obtain ⟨b6, O6, i6⟩ := p6
 obtain ⟨w0, w1, w2⟩ := hw
 have hm : ∀ c, c ∈ b3 ++ (b4 ++ (b5 ++ b6)) → (l3 ≤ c ∧ c < h3 ∧ c ∈ b3) ∨ (l4 ≤ c ∧ c < h4 ∧ c ∈ b4) ∨ (l5 ≤ c ∧ c < h5 ∧ c ∈ b5) ∨ (l6 ≤ c ∧ c < h6 ∧ c ∈ b6) := by
  intro c hc
  simp only [List.mem_append] at hc
  rcases hc with hc | hc | hc | hc
  ·
   exact Or.inl ⟨(i3 c hc).1, (i3 c hc).2, hc⟩
  ·
   exact Or.inr (Or.inl ⟨(i4 c hc).1, (i4 c hc).2, hc⟩)
  ·
   exact Or.inr (Or.inr (Or.inl ⟨(i5 c hc).1, (i5 c hc).2, hc⟩))
  exact Or.inr (Or.inr (Or.inr ⟨(i6 c hc).1, (i6 c hc).2, hc⟩))
 refine ⟨b3 ++ (b4 ++ (b5 ++ b6)), eE (iZ O3 w2 O3.2.1) O4 O5 O6 w0 w1 ?_, fun c hc => by have := hm c hc; omega⟩
 rw [List.nodup_append, List.nodup_append, List.nodup_append]
 refine ⟨O3.2.1, ⟨O4.2.1, ⟨O5.2.1, O6.2.1, fun a ha c hc e => ?_⟩, fun a ha c hc e => ?_⟩, fun a ha c hc e => ?_⟩
 ·
  have := i5 a ha; have := i6 c hc; omega
 ·
  have := i4 a ha
  rcases List.mem_append.1 hc with hc | hc
  ·
   have := i5 c hc; omega
  have := i6 c hc; omega
 have := i3 a ha
 simp only [List.mem_append] at hc
 rcases hc with hc | hc | hc
 ·
  have := i4 c hc; omega
 ·
  have := i5 c hc; omega
 have := i6 c hc; omega
theorem ni {x : aV} (h : aJ x = 0) : x.writes.length ≤ 1000000 ∧ ∀ y ∈ x.writes, y.vec.length ≤ 10000000 := by
 have hk := cR h
 refine ⟨by have := hk.len; omega, fun y hy => ?_⟩
 obtain ⟨-, -, -, hq⟩ := bW (hk.ws y hy)
 rcases hq with ⟨-, hv⟩ | ⟨-, hv⟩
 ·
  have := (cy hv).1; omega
 rw [hv]; simp
theorem oA {x : bP} (h : aL x = 0) : x.write.vec.length ≤ 10000000 := by
 unfold aL at h
 split at h
 ·
  simp at h
 rename_i h1
 split at h
 ·
  simp at h
 split at h
 ·
  rename_i h3
  have h4 : mQ x.write := Decidable.byContradiction fun q => h1 (Or.inr (Or.inr ⟨h3, q⟩))
  have := h4.2.2.2.2
  omega
 obtain ⟨-, -, -, hk⟩ := bW h
 rcases hk with ⟨-, hv⟩ | ⟨-, hv⟩
 ·
  have := (cy hv).1; omega
 rw [hv]; simp
def eL (w : World) (lo g : Nat) (cells : List Value) (x : ay) : Prop := ∃ bl, ab.aF.Own w cells x bl ∧ g ∉ bl ∧ ∀ b ∈ bl, lo ≤ b ∧ b < w.heap.size
theorem eL.ext {S : Nat → Prop} {w w' : World} {lo g : Nat} {cells : List Value} {x : ay} (h : eL w lo g cells x) (e : Ext S w w') (hs : ∀ k, lo ≤ k → k < w.heap.size → k ≠ g → ¬ S k) : eL w' lo g cells x := by
 obtain ⟨bl, O, hg, hb⟩ := h
 exact ⟨bl, O.ext e (fun b hm => hs b (hb b hm).1 (hb b hm).2 (fun q => hg (q ▸ hm))), hg, fun b hm => ⟨(hb b hm).1, Nat.lt_of_lt_of_le (hb b hm).2 e.size⟩⟩
theorem eL.later {w w' : World} {lo g : Nat} {cells : List Value} {x : ay} (h : eL w lo g cells x) (hb : Below w.heap.size w w') : eL w' lo g cells x := h.ext (az hb dz) fun _ _ _ _ q => q
theorem eL.reads {w : World} {lo g : Nat} {cells : List Value} {x : ay} (h : eL w lo g cells x) : ab.aF.Reads w cells x := by
 obtain ⟨bl, O, -⟩ := h
 exact ⟨bl, O.1⟩
theorem eL.vK {w : World} {lo g : Nat} {cells : List Value} {x : ay} (h : eL w lo g cells x) : ab.aF.aN w cells x lo w.heap.size := by
 obtain ⟨bl, O, -, hb⟩ := h
 exact ⟨bl, O, hb⟩
theorem sJ {w : World} {lo hi g : Nat} {cells : List Value} {x : ay} (h : ab.aF.aN w cells x lo hi) (hg : hi ≤ g) (hh : hi ≤ w.heap.size) : eL w lo g cells x := by
 obtain ⟨bl, O, hb⟩ := h
 exact ⟨bl, O, fun q => by have := hb g q; omega, fun b hm => by have := hb b hm; omega⟩
theorem qA {w : World} {x : ay} {v3 v4 v5 v6 : Value} {lo g : Nat} (h : eL w lo g [.int .i64 x.now, .int .i64 x.events, .int .i64 x.chain.ae, v3, v4, v5, v6] x) (he : -1000000000 ≤ x.events + 1 ∧ x.events + 1 ≤ 1000000000) : eL w lo g [.int .i64 x.now, .int .i64 (x.events + 1), .int .i64 x.chain.ae, v3, v4, v5, v6] (cI x) := by
 obtain ⟨bl, O, hg, hb⟩ := h
 obtain ⟨a3, d3, a4, d4, a5, d5, a6, d6, g2, g4, g5, g6, hq, rfl, O2, O4, O5, O6, w0, w1⟩ := gx O
 simp only [List.cons.injEq, and_true, true_and] at hq
 obtain ⟨rfl, rfl, rfl, rfl⟩ := hq
 exact ⟨_, eE (x := cI x) O2 O4 O5 O6 w0 (aP he) O.2.1, hg, hb⟩
theorem eo {w : World} {c : Int} {lo hi : Nat} (hc : -1000000000 ≤ c ∧ c ≤ 1000000000) (h : lo ≤ hi) : ab.aE.aN w [.int .i64 c, .bool false, .int .i64 0, .int .i64 0, .int .i64 0, .slice none 0 0, .slice none 0 0, .slice none 0 0, .slice none 0 0] (cm c) lo hi := by
 have q : ab.aF.aN w [.int .i64 0, .int .i64 0, .int .i64 0, .slice none 0 0, .slice none 0 0, .slice none 0 0, .slice none 0 0] eP lo hi :=
  (kx (x := eP) (l3 := lo) (h3 := lo) (l4 := lo) (h4 := lo) (l5 := lo) (h5 := lo) (l6 := lo) (h6 := lo) fO fO fO fO (Nat.le_refl _) (Nat.le_refl _) (Nat.le_refl _) (Nat.le_refl _) (Nat.le_refl _) (Nat.le_refl _) (Nat.le_refl _) ⟨by decide, by decide, by decide⟩).mono (Nat.le_refl _) h
 obtain ⟨bl, O, hb⟩ := q
 exact ⟨bl, ed (x := cm c) O (aP hc) O.2.1, hb⟩
theorem tQ {w : World} {m : Bool} {cells : List Value} {x : ay} {lo hi : Nat} (h : ab.aF.aN w cells x lo hi) : ab.aE.aN w ([.int .i64 0] ++ ([.bool m] ++ cells)) ⟨0, m, x⟩ lo hi := by
 obtain ⟨bl, O, hb⟩ := h
 exact ⟨bl, ed (x := ⟨0, m, x⟩) O (show (Lit.int .i64 0).wf = true by decide) O.2.1, hb⟩
def ij (c : Int) (mv : Bool) (z : ay) : bk := if c = 0 then ⟨0, mv, z⟩ else cm c
def pr (L N : Nat) (cap : Array Value) (y : ay) (c : Int) (mv : Bool) (z : ay) (W : World) : Prop :=
 ∀ (g lo : Nat) (v3 v4 v5 v6 : Value), L ≤ lo → aA 0 #[.int .i64 y.now, .int .i64 y.events, .int .i64 y.chain.ae, v3, v4, v5, v6] 39 W g → lo ≤ g → eL W lo g [.int .i64 y.now, .int .i64 y.events, .int .i64 y.chain.ae, v3, v4, v5, v6] y → (∃ g6 : Nat, v6 = .slice (some ⟨g6, 0, none⟩) y.af.length y.af.length) →
  Calls Tryz.prog N (#[.pointer (some ⟨g, 0, none⟩)] ++ cap) W fun e W' => ∃ m, e = .returned (.tuple #[.bool m, .int .i64 c]) ∧ (c = 0 → m = mv ∧ ∃ (u3 u4 u5 u6 : Value), aA 0 #[.int .i64 z.now, .int .i64 z.events, .int .i64 z.chain.ae, u3, u4, u5, u6] 39 W' g ∧ eL W' lo g [.int .i64 z.now, .int .i64 z.events, .int .i64 z.chain.ae, u3, u4, u5, u6] z) ∧ Ext (fun q => lo ≤ q) W W'
theorem mD {w w' : World} {lo : Nat} (e : Ext (fun q => lo ≤ q) w w') (h : lo ≤ w.heap.size) : Below lo w w' := e.below h fun k hk hn => by omega
namespace ab
variable {α : Type} {A : ab α} {w w' : World}
def gk (A : ab α) (w : World) (v : Value) (xs : List α) (b : Nat) (r : List Nat) : Prop := (sl A).bg w [v] xs (b :: r) ∧ b ∉ r ∧ ∀ o, w.frozen? ⟨b, o, none⟩ = false
theorem mH {v : Value} {xs : List α} {bl : List Nat} (h : (sl A).Own w [v] xs bl) (hp : 0 < xs.length) : ∃ b off cap r, v = .slice (some ⟨b, off, none⟩) xs.length cap ∧ bl = b :: r ∧ A.gk w v xs b r := by
 obtain ⟨hl, hnd, hf⟩ := h
 have hl2 := hl
 obtain ⟨ao, cp, e, hsz, hor⟩ := hl2
 obtain rfl : v = .slice ao xs.length cp := by simpa using e
 rcases hor with ⟨rfl, -⟩ | ⟨b, off, rows, bls, rfl, hb, rfl, hr, hbl, hj⟩
 ·
  simp at hp
 rw [List.nodup_cons] at hnd
 exact ⟨b, off, cp, bls.flatten, rfl, rfl, hl, hnd.1, fun o => hf b (by simp) o⟩
theorem gk.row {b off cap k n : Nat} {xs : List α} {r : List Nat} (h : A.gk w (.slice (some ⟨b, off, none⟩) n cap) xs b r) (hk : k < xs.length) : ∃ row, cU w w b (off + k * A.n) A.n row [] ∧ ∃ blk, A.bg w row xs[k] blk ∧ (∀ c ∈ blk, c ∈ r) := by
 obtain ⟨⟨ao, cp, e, hsz, hor⟩, hnb, hf⟩ := h
 simp only [List.cons.injEq, Value.slice.injEq, and_true] at e
 obtain ⟨rfl, rfl, rfl⟩ := e
 rcases hor with ⟨rfl, h0⟩ | ⟨b', off', rows, bls, e2, hb, e3, hr, hbl, hj⟩
 ·
  simp at hk
 simp only [Option.some.injEq, Addr.mk.injEq, and_true] at e2
 obtain ⟨rfl, rfl⟩ := e2
 rw [List.cons.injEq] at e3
 obtain ⟨-, rfl⟩ := e3
 obtain ⟨hc, hlie⟩ := hj k hk (by omega) (by omega)
 exact ⟨rows[k]'(by omega), ⟨A.len hlie, hc, fun _ _ => rfl, hf, hb, Ext.refl _ _⟩, bls[k]'(by omega), hlie, fun c hc => List.mem_flatten.2 ⟨_, List.getElem_mem _, hc⟩⟩
theorem gk.put {b off cap k n : Nat} {xs : List α} {r : List Nat} (h : A.gk w (.slice (some ⟨b, off, none⟩) n cap) xs b r) (hk : k < xs.length) {row' : List Value} {x' : α} {blk' : List Nat}
  (hR : cU w w' b (off + k * A.n) A.n row' []) (hO : A.bg w' row' x' blk') (hd : b ∉ blk') :
  ∃ r', A.gk w' (.slice (some ⟨b, off, none⟩) n cap) (xs.set k x') b r' ∧ (∀ c ∈ r', c ∈ r ∨ c ∈ blk') ∧ (r.Nodup → blk'.Nodup → (∀ c ∈ blk', c ∉ r) → r'.Nodup) := by
 obtain ⟨⟨ao, cp, e, hsz, hor⟩, hnb, hf⟩ := h
 simp only [List.cons.injEq, Value.slice.injEq, and_true] at e
 obtain ⟨rfl, rfl, rfl⟩ := e
 rcases hor with ⟨rfl, h0⟩ | ⟨b', off', rows, bls, e2, hb, e3, hr, hbl, hj⟩
 ·
  simp at hk
 simp only [Option.some.injEq, Addr.mk.injEq, and_true] at e2
 obtain ⟨rfl, rfl⟩ := e2
 rw [List.cons.injEq] at e3
 obtain ⟨-, rfl⟩ := e3
 have hkb : k < bls.length := by omega
 have hmem : ∀ c ∈ (bls.set k blk').flatten, c ∈ bls.flatten ∨ c ∈ blk' := by
  intro c hc
  obtain ⟨l, hl1, hl2⟩ := List.mem_flatten.1 hc
  rcases List.mem_or_eq_of_mem_set hl1 with q | rfl
  ·
   exact Or.inl (List.mem_flatten.2 ⟨l, q, hl2⟩)
  exact Or.inr hl2
 have hkeep : ∀ c, c < w.heap.size → c ≠ b → w'.heap[c]? = w.heap[c]? := fun c hlt h1 => hR.ext.block c hlt (by rintro (h | h); exact h1 h; cases h)
 refine ⟨(bls.set k blk').flatten, ⟨⟨some ⟨b, off, none⟩, cap, by simp, by simpa using hsz, Or.inr ⟨b, off, rows.set k row', bls.set k blk', rfl, hR.lt, rfl, by simpa using hr, by simpa using hbl, fun j h1 h2 h3 => ?_⟩⟩, ?_, fun o => hR.soft o⟩, hmem, ?_⟩
 ·
  have h1' : j < xs.length := by simpa using h1
  have h2' : j < rows.length := by simpa using h2
  have h3' : j < bls.length := by simpa using h3
  by_cases e : j = k
  ·
   subst e
   rw [List.getElem_set_self, List.getElem_set_self, List.getElem_set_self]
   exact ⟨hR.cells, hO⟩
  rw [List.getElem_set_ne (by omega), List.getElem_set_ne (by omega), List.getElem_set_ne (by omega)]
  obtain ⟨c1, c2⟩ := hj j h1' h2' h3'
  refine ⟨fun m hm => ?_, A.ai c2 fun c hm => hkeep c (A.lt c2 c hm) (fun e3 => hnb (e3 ▸ List.mem_flatten.2 ⟨_, List.getElem_mem h3', hm⟩))⟩
  rw [hR.others _ ?_]
  ·
   exact c1 m hm
  rcases Nat.lt_or_ge j k with h | h
  ·
   left
   have : (j + 1) * A.n ≤ k * A.n := Nat.mul_le_mul_right _ h
   rw [Nat.add_mul] at this
   omega
  right
  have : (k + 1) * A.n ≤ j * A.n := Nat.mul_le_mul_right _ (by omega)
  rw [Nat.add_mul] at this
  omega
 ·
  intro hc
  rcases hmem b hc with q | q
  ·
   exact hnb q
  exact hd q
 intro hn1 hn2 hn3
 have hfl := j8 hn1
 rw [List.nodup_iff_pairwise_ne, List.pairwise_flatten]
 refine ⟨fun l hl => ?_, ?_⟩
 ·
  rcases List.mem_or_eq_of_mem_set hl with q | rfl
  ·
   exact List.nodup_iff_pairwise_ne.1 (hfl.1 l q)
  exact List.nodup_iff_pairwise_ne.1 hn2
 rw [List.pairwise_iff_getElem]
 intro i j hi hj2 hij x hx y hy exy
 subst exy
 have hi' : i < bls.length := by simpa using hi
 have hj' : j < bls.length := by simpa using hj2
 by_cases e1 : i = k
 ·
  subst e1
  rw [List.getElem_set_self] at hx
  rw [List.getElem_set_ne (by omega)] at hy
  exact hn3 x hx (List.mem_flatten.2 ⟨_, List.getElem_mem hj', hy⟩)
 rw [List.getElem_set_ne (by omega)] at hx
 by_cases e2 : j = k
 ·
  subst e2
  rw [List.getElem_set_self] at hy
  exact hn3 x hy (List.mem_flatten.2 ⟨_, List.getElem_mem hi', hx⟩)
 rw [List.getElem_set_ne (by omega)] at hy
 exact hfl.2 i j hi' hj' (by omega) x hx hy
end ab
theorem cU.set7 {w c : World} {b o : Nat} {cs : List Value} (h : cU w c b o 7 cs []) (v0 v1 v2 v3 v4 v5 v6 : Value) :
  cU w (((((((c.setCell ⟨b, o, none⟩ v0).setCell ⟨b, o + 1, none⟩ v1).setCell ⟨b, o + 2, none⟩ v2).setCell ⟨b, o + 3, none⟩ v3).setCell ⟨b, o + 4, none⟩ v4).setCell ⟨b, o + 5, none⟩ v5).setCell ⟨b, o + 6, none⟩ v6) b o 7 [v0, v1, v2, v3, v4, v5, v6] [] := by
 have hl := h.len
 match cs, hl with
 | [_, _, _, _, _, _, _], _ =>
  have q := ((((((h.set 0 v0 (by decide)).set 1 v1 (by decide)).set 2 v2 (by decide)).set 3 v3 (by decide)).set 4 v4 (by decide)).set 5 v5 (by decide)).set 6 v6 (by decide)
  simpa using q
namespace ab
variable {α : Type} {A : ab α} {w w' : World}
theorem rH {ao : Option Addr} {n cap : Nat} {xs : List α} {bl : List Nat} (hA : 0 < A.n) (h : (sl A).Own w [.slice ao n cap] xs bl) : n = xs.length ∧ ∃ (rows : List (List Value)) (bls : List (List Nat)),
  rows.length = xs.length ∧ bls.length = xs.length ∧ (∀ j (h1 : j < xs.length) (h2 : j < rows.length) (h3 : j < bls.length), A.bg w rows[j] xs[j] bls[j]) ∧
  (∀ b ∈ bls.flatten, b ∈ bl) ∧ bls.flatten.Nodup ∧ (∀ r ∈ rows, r.length = A.n) ∧ ∀ a, ao = some a → ∀ j u, rows.flatten[j]? = some u → w.cell? (a.add j) = some u := by
 obtain ⟨hl, hnd, hf⟩ := h
 obtain ⟨ao', cp, e, hsz, hor⟩ := hl
 simp only [List.cons.injEq, Value.slice.injEq, and_true] at e
 obtain ⟨rfl, rfl, rfl⟩ := e
 refine ⟨rfl, ?_⟩
 rcases hor with ⟨rfl, rfl⟩ | ⟨b, off, rows, bls, rfl, hb, rfl, hr, hbl, hj⟩
 ·
  exact ⟨[], [], rfl, rfl, fun j h1 => by simp at h1, by simp, by simp, by simp, by simp⟩
 rw [List.nodup_cons] at hnd
 have hrl : ∀ r ∈ rows, r.length = A.n := by
  intro r hm
  obtain ⟨j, hjr, rfl⟩ := List.getElem_of_mem hm
  exact A.len (hj j (by omega) hjr (by omega)).2
 refine ⟨rows, bls, hr, hbl, fun j h1 h2 h3 => (hj j h1 h2 h3).2, fun c hc => List.mem_cons_of_mem _ hc, hnd.2, hrl, ?_⟩
 intro a ha p u hu
 obtain rfl : a = ⟨b, off, none⟩ := by simpa using ha.symm
 have hp : p < rows.flatten.length := by
  rcases Nat.lt_or_ge p rows.flatten.length with q | q
  ·
   exact q
  rw [List.getElem?_eq_none q] at hu; cases hu
 have hfl : rows.flatten.length = rows.length * A.n := by
  rw [List.length_flatten]
  have : rows.map List.length = List.replicate rows.length A.n := by
   rw [List.eq_replicate_iff]
   exact ⟨by simp, fun q hq => by obtain ⟨r, hr1, rfl⟩ := List.mem_map.1 hq; exact hrl r hr1⟩
  rw [this, List.sum_replicate_nat]
 have hj1 : p / A.n < rows.length := by
  rw [Nat.div_lt_iff_lt_mul hA]
  omega
 have hm1 : p % A.n < A.n := Nat.mod_lt _ hA
 have hpe : p = p / A.n * A.n + p % A.n := by
  have := Nat.div_add_mod p A.n
  rw [Nat.mul_comm] at this
  omega
 have hfa := ab.jz hrl (p / A.n) (p % A.n) hj1 hm1
 rw [← hpe] at hfa
 have hc := (hj (p / A.n) (by omega) hj1 (by omega)).1 (p % A.n) hm1
 have ha : (⟨b, off, none⟩ : Addr).add p = ⟨b, off + p / A.n * A.n + p % A.n, none⟩ := by
  rw [Addr.add_lit]
  congr 1
  omega
 rw [ha, hc, ← hfa, hu]
theorem sH {xs : List α} {x : α} {bl : List Nat} {rows : List (List Value)} {bls : List (List Nat)} {row : List Value} {H T g cap : Nat}
  (hrows : rows.length = xs.length) (hbls : bls.length = xs.length) (hl : ∀ j (h1 : j < xs.length) (h2 : j < rows.length) (h3 : j < bls.length), A.bg w rows[j] xs[j] bls[j])
  (hsub : ∀ b ∈ bls.flatten, b ∈ bl) (hnd : bls.flatten.Nodup) (hbl : ∀ b ∈ bl, b < w.heap.size) (hfz : ∀ b ∈ bl, ∀ o, w.frozen? ⟨b, o, none⟩ = false) (hx : A.bg w' row x [])
  (ho : w'.ownsRow H T A.n (.slice (some ⟨g, 0, none⟩) (xs.length + 1) cap) (xs.length + 1) (rows.flatten ++ row)) (hH : w.heap.size ≤ H) (hb : Below w.heap.size w w') (hn : xs.length + 1 ≤ 9223372036854775807) :
  (sl A).Own w' [.slice (some ⟨g, 0, none⟩) (xs.length + 1) cap] (xs ++ [x]) (g :: bls.flatten) ∧ H ≤ g := by
 have hlt : ∀ b ∈ bls.flatten, b < w.heap.size := fun b hm => hbl b (hsub b hm)
 have hgH : H ≤ g := (ho.lt g rfl).1
 have hG : bU A w' H T (.slice (some ⟨g, 0, none⟩) (xs.length + 1) cap) (rows ++ [row]) (xs ++ [x]) (bls ++ [[]]) := by
  refine ⟨by simpa using ho, by simp [hrows], by simp [hbls], fun j h1 h2 h3 => ?_, ?_⟩
  ·
   by_cases hj : j < xs.length
   ·
    rw [List.getElem_append_left (by omega), List.getElem_append_left hj, List.getElem_append_left (by omega)]
    refine A.ai (hl j hj (by omega) (by omega)) fun b hm => hb.block b (hlt b (List.mem_flatten.2 ⟨_, List.getElem_mem _, hm⟩))
   obtain rfl : j = xs.length := by simp at h1; omega
   rw [List.getElem_append_right (by omega), List.getElem_append_right (by omega), List.getElem_append_right (by omega)]
   simpa [hrows, hbls] using hx
  intro b hm e
  have e1 : b = g := by simpa [Value.ownBlock] using e.symm
  have := hlt b (by simpa using hm)
  omega
 have hr := hG.reads (by simpa using hn)
 have hne : xs ++ [x] ≠ [] := by simp
 simp only [if_neg hne] at hr
 rcases hr with hr | ⟨h0, -⟩
 ·
  refine ⟨⟨?_, ?_, ?_⟩, hgH⟩
  ·
   simpa using hr
  ·
   rw [List.nodup_cons]
   exact ⟨fun hm => by have := hlt g hm; omega, hnd⟩
  intro b hm o
  rcases List.mem_cons.1 hm with rfl | hm
  ·
   exact ho.frozenAt o
  rw [hb.frozen (p := ⟨b, o, none⟩) (hlt b hm)]
  exact hfz b (hsub b hm) o
 exact absurd h0 hne
end ab
theorem fx {w1 : World} {b off n : Nat} {olds : List Value} (hlo : olds.length = n * 11) (holds : ∀ j u, olds[j]? = some u → w1.cell? ((⟨b, off, none⟩ : Addr).add j) = some u) {row : List Value} {x : bj} (hl : ab.ar.bg w1 row x [])
  {ops : Array Oper} {o : Oper} {a : Act} {K : Act → World → Prop} {Q : Exit → Act → World → Prop} {E : Prop} (hgd : o.guard = none) (s y : Operand)
  (ho : o.op = .call { callee := .builtin .append, args := #[s, y], argTypes := #[37, 37] }) (hs : a.eval s = .slice (some ⟨b, off, none⟩) n n) (hy : a.eval y = .slice (some ⟨w1.heap.size, 0, none⟩) 1 1) (hn : n + 1 ≤ 100000000)
  (h : ∀ g cap w', w'.ownsRow w1.heap.size 89 11 (.slice (some ⟨g, 0, none⟩) (n + 1) cap) (n + 1) (olds ++ row) → Below w1.heap.size w1 w' → g < w'.heap.size → w1.heap.size < w'.heap.size → w1.heap.size < g → K (a.put o.dst (.slice (some ⟨g, 0, none⟩) (n + 1) cap)) w') :
  if Region.wanted o (yielded ops a.tmps) = true then Oper.wp Tryz.prog o a (w1.alloc (.cells row.toArray 89)) K Q else E := by
 obtain ⟨i0, hi0, hz0, hz1, hz2⟩ := info_parts gV
 obtain ⟨h1, hlen⟩ := lg hl
 have hw : Region.wanted o (yielded ops a.tmps) = true := by simp [Region.wanted, hgd]
 rw [if_pos hw]
 have nb : Below w1.heap.size w1 (w1.alloc (.cells row.toArray 89)) := (Below.refl _ _).alloc (Nat.le_refl _) _
 obtain ⟨v', w', hr, h2, h3⟩ := run_append_arg_grows (P := Tryz.prog) (w1.alloc (.cells row.toArray 89)) 37 o.type 89 i0 _ 11 136 Tryz.underlying37 hi0 hz0 hz1 hz2 rfl (by omega) ⟨b, off, none⟩ n n olds hlo
  (fun j u hj => by
   have := holds j u hj
   rw [Addr.add_lit] at this ⊢
   exact (nb.cell (p := ⟨b, off + j, none⟩) (World.block_lt_of_cell? w1 _ this)).trans this)
  ⟨w1.heap.size, 0, none⟩ 1 1 row hlen (World.news_of_block (cs := row.toArray) (t := 89) (fr := (0, 0)) (heap_alloc_new w1 _)) (by omega) (by unfold maxLen; omega) (by omega)
 obtain ⟨g, cap, rfl, hg1, hg2⟩ := h2.form (by omega)
 have hsz : (w1.alloc (.cells row.toArray 89)).heap.size = w1.heap.size + 1 := by simp
 have hbw : Below w1.heap.size w1 w' := nb.trans ((Below.refl _ _).grown h3 (by simp) (fun j hj => by cases hj))
 unfold Oper.wp execOp
 simp only [ho, resolve, invoke, builtin, Sem.run_bind, Sem.run_pure, Result.andThen_ok, List.map_toArray, List.map_cons, List.map_nil, hs, hy, hr]
 exact h g cap w' (kb (by simp) h2) hbw hg2 (by have := h3.size; omega) (by omega)
def ov (y : ay) (e : bj) : ay := ⟨y.now, y.events, y.chain, y.nodes, y.msgs, y.af ++ [e]⟩
theorem lu {W : World} {lo g b off n : Nat} {v3 v4 v5 : Value} {y : ay} (h : eL W lo g [.int .i64 y.now, .int .i64 y.events, .int .i64 y.chain.ae, v3, v4, v5, .slice (some ⟨b, off, none⟩) n n] y) :
  n = y.af.length ∧ ∃ rows : List (List Value), rows.flatten.length = n * 11 ∧ (∀ j u, rows.flatten[j]? = some u → W.cell? ((⟨b, off, none⟩ : Addr).add j) = some u) ∧
   ∀ (W2 : World) (e : bj) (row : List Value) (H g' cap : Nat), Below W.heap.size W W2 → ab.ar.bg W2 row e [] → W2.ownsRow H 89 11 (.slice (some ⟨g', 0, none⟩) (n + 1) cap) (n + 1) (rows.flatten ++ row) → W.heap.size ≤ H → g < W.heap.size → lo ≤ W.heap.size → g' < W2.heap.size → n + 1 ≤ 1000000 →
    eL W2 lo g [.int .i64 y.now, .int .i64 y.events, .int .i64 y.chain.ae, v3, v4, v5, .slice (some ⟨g', 0, none⟩) (n + 1) cap] (ov y e) := by
 obtain ⟨bl, O, hgb, hbl⟩ := h
 obtain ⟨a3, d3, a4, d4, a5, d5, a6, d6, g2, g4, g5, g6, hq, rfl, O2, O4, O5, O6, w0, w1⟩ := gx O
 simp only [List.cons.injEq, Value.slice.injEq, and_true, true_and] at hq
 obtain ⟨rfl, rfl, rfl, rfl, hn, rfl⟩ := hq
 have hnd := O.2.1
 obtain ⟨-, rows, bls, hr1, hr2, hr3, hr4, hr5, hr6, hr7⟩ := ab.rH (by decide) O6
 refine ⟨hn, rows, ?_, fun j u hu => hr7 _ rfl j u hu, ?_⟩
 ·
  have : rows.map List.length = List.replicate rows.length 11 := by
   rw [List.eq_replicate_iff]
   exact ⟨by simp, fun q hq => by obtain ⟨r, hr, rfl⟩ := List.mem_map.1 hq; exact hr6 r hr⟩
  rw [List.length_flatten, this, List.sum_replicate_nat, hr1, hn]
 intro W2 e row H g' cap hb hx ho hH hg hlo hg2 hn2
 have hlt6 := O6.lt
 rw [hn] at ho
 obtain ⟨O6', hHg⟩ := ab.sH hr1 hr2 hr3 hr4 hr5 hlt6 O6.2.2 hx ho hH hb (by omega)
 have P2 := O2.later hb
 have P4 := O4.later hb
 have P5 := O5.later hb
 have hl2 := O2.lt
 have hl4 := O4.lt
 have hl5 := O5.lt
 rw [List.nodup_append, List.nodup_append, List.nodup_append] at hnd
 obtain ⟨n2, ⟨n4, ⟨n5, n6, x5⟩, x4⟩, x2⟩ := hnd
 have hmem : ∀ c ∈ g' :: bls.flatten, c = g' ∨ c ∈ g6 := fun c hc => by
  rcases List.mem_cons.1 hc with e | e
  ·
   exact Or.inl e
  exact Or.inr (hr4 c e)
 have hnd2 : (g2 ++ (g4 ++ (g5 ++ (g' :: bls.flatten)))).Nodup := by
  rw [List.nodup_append, List.nodup_append, List.nodup_append]
  refine ⟨n2, ⟨n4, ⟨n5, O6'.2.1, fun a ha c hc => ?_⟩, fun a ha c hc => ?_⟩, fun a ha c hc => ?_⟩
  ·
   rcases hmem c hc with rfl | q
   ·
    have := hl5 a ha; omega
   exact x5 a ha c q
  ·
   rcases List.mem_append.1 hc with q | q
   ·
    exact x4 a ha c (List.mem_append_left _ q)
   rcases hmem c q with rfl | q
   ·
    have := hl4 a ha; omega
   exact x4 a ha c (List.mem_append_right _ q)
  rcases List.mem_append.1 hc with q | q
  ·
   exact x2 a ha c (List.mem_append_left _ q)
  rcases List.mem_append.1 q with q | q
  ·
   exact x2 a ha c (List.mem_append_right _ (List.mem_append_left _ q))
  rcases hmem c q with rfl | q
  ·
   have := hl2 a ha; omega
  exact x2 a ha c (List.mem_append_right _ (List.mem_append_right _ q))
 rw [← hn] at O6'
 have hlen : n + 1 = (ov y e).af.length := by rw [hn]; simp [ov]
 rw [hlen] at O6' ⊢
 have hin : ∀ c ∈ g2 ++ (g4 ++ (g5 ++ (g' :: bls.flatten))), c = g' ∨ c ∈ g2 ++ (g4 ++ (g5 ++ g6)) := fun c hc => by
  simp only [List.mem_append] at hc ⊢
  rcases hc with q | q | q | q
  ·
   exact Or.inr (Or.inl q)
  ·
   exact Or.inr (Or.inr (Or.inl q))
  ·
   exact Or.inr (Or.inr (Or.inr (Or.inl q)))
  rcases hmem c q with q | q
  ·
   exact Or.inl q
  exact Or.inr (Or.inr (Or.inr (Or.inr q)))
 refine ⟨_, eE (x := ov y e) P2 P4 P5 O6' w0 w1 hnd2, fun hm => ?_, fun c hc => ?_⟩
 ·
  rcases hin g hm with q | q
  ·
   omega
  exact hgb q
 rcases hin c hc with rfl | q
 ·
  omega
 have := hbl c q
 have := hb.size
 omega
theorem jP {w : World} {cs : List Value} {x : cX} {bl : List Nat} (h : ab.da.Own w cs x bl) : ∃ (a6 : Option Addr) (d6 : Nat) (g2 : List Nat), cs = [.int .i64 x.code, .int .i64 x.place, .int .i64 x.node.id, .bool x.node.up, .int .i64 x.node.ae, .int .i64 x.node.au, .slice a6 x.node.writes.length d6, .int .i64 x.node.sure, .int .i64 x.node.clean] ∧ bl = g2 ∧ ab.ax.Own w [.int .i64 x.node.id, .bool x.node.up, .int .i64 x.node.ae, .int .i64 x.node.au, .slice a6 x.node.writes.length d6, .int .i64 x.node.sure, .int .i64 x.node.clean] x.node g2 ∧ (Lit.int .i64 x.code).wf = true ∧ (Lit.int .i64 x.place).wf = true := by
 obtain ⟨hl, hn, hf⟩ := h
 obtain ⟨a6, d6, b6, rfl, hbl, w0, w1, w2, w4, w5, l6, w7, w8⟩ := fS.1 hl
 rw [hbl] at hn hf
 exact ⟨a6, d6, b6, rfl, hbl, ⟨cD.2 ⟨a6, d6, b6, rfl, rfl, w2, w4, w5, l6, w7, w8⟩, hn, hf⟩, w0, w1⟩
theorem iJ {w : World} {x : cX} {c2 : List Value} {g2 : List Nat} (O2 : ab.ax.Own w c2 x.node g2) (v0 : (Lit.int .i64 x.code).wf = true) (v1 : (Lit.int .i64 x.place).wf = true) (hn : (g2).Nodup) : ab.da.Own w ([.int .i64 x.code] ++ ([.int .i64 x.place] ++ c2)) x (g2) := by
 refine ⟨⟨[.int .i64 x.code], [.int .i64 x.place] ++ c2, [], [] ++ g2, rfl, by simp, ⟨rfl, v0, rfl⟩, ⟨[.int .i64 x.place], c2, [], g2, rfl, rfl, ⟨rfl, v1, rfl⟩, O2.1⟩⟩, hn, ?_⟩
 intro b hb o
 exact O2.2.2 b hb o
theorem nL {ws : List aj} (h : ∀ x ∈ ws, wF x = 0) : al ab.ag.bV ws ≤ 10 * ws.length := by
 induction ws with
 | nil => simp [al]
 | cons x xs ih =>
  have h1 := ih fun y hy => h y (List.mem_cons_of_mem _ hy)
  have h2 : x.vec.length ≤ 3 := by
   obtain ⟨-, -, -, hk⟩ := bW (h x (by simp))
   rcases hk with ⟨-, hv⟩ | ⟨-, hv⟩
   ·
    have := (cy hv).1; omega
   rw [hv]; simp
  have h3 : ab.ag.bV x = x.vec.length + 4 := by
   have e : al ab.int.bV x.vec = x.vec.length := by
    generalize x.vec = l
    induction l with
    | nil => rfl
    | cons y ys ihy => simp only [al, List.length_cons, ihy]; show 1 + ys.length = _; omega
   show 1 + (1 + (al ab.int.bV x.vec + (1 + 1))) = _
   omega
  simp only [al, List.length_cons]
  omega
def gX (y : ay) (k : Nat) (n : aV) : ay := ⟨y.now, y.events, y.chain, y.nodes.set k n, y.msgs, y.af⟩
theorem jV {y : ay} {n : aV} {k : Nat} (h : n.id = (k : Int) + 1) : dA y n = gX y k n := by
 have : (n.id - 1).toNat = k := by omega
 rw [dA, gX, this]
theorem sD {W0 W : World} {lo g k : Nat} {v3 v4 v5 v6 : Value} {y : ay} {row : List Value} {n : aV} (h : eL W0 lo g [.int .i64 y.now, .int .i64 y.events, .int .i64 y.chain.ae, v3, v4, v5, v6] y) (hb : Below W0.heap.size W0 W) (hg : g < W0.heap.size) (hr : ab.ax.aN W row n W0.heap.size W.heap.size) (hk : k < y.nodes.length) :
  ∃ b off cap row0, v4 = .slice (some ⟨b, off, none⟩) y.nodes.length cap ∧ lo ≤ b ∧ b < W0.heap.size ∧ b ≠ g ∧ cU W W b (off + k * 7) 7 row0 [] ∧ ab.ax.Reads W row0 y.nodes[k] ∧
   ∀ W2, cU W W2 b (off + k * 7) 7 row [] → eL W2 lo g [.int .i64 y.now, .int .i64 y.events, .int .i64 y.chain.ae, v3, v4, v5, v6] (gX y k n) := by
 obtain ⟨bl, O, hgb, hbl⟩ := h
 obtain ⟨a3, d3, a4, d4, a5, d5, a6, d6, g2, g4, g5, g6, hq, rfl, O2, O4, O5, O6, w0, w1⟩ := gx O
 simp only [List.cons.injEq, and_true, true_and] at hq
 obtain ⟨rfl, rfl, rfl, rfl⟩ := hq
 have hnd := O.2.1
 replace O2 := O2.later hb
 replace O4 := O4.later hb
 replace O5 := O5.later hb
 replace O6 := O6.later hb
 obtain ⟨b, off, cap, r, e4, rfl, hA⟩ := ab.mH O4 (by omega)
 simp only [Value.slice.injEq, true_and] at e4
 obtain ⟨rfl, rfl⟩ := e4
 obtain ⟨row0, hR0, blk0, hl0, hm0⟩ := hA.row hk
 obtain ⟨blk, hO, hbk⟩ := hr
 have hin : ∀ c, c ∈ g2 ++ ((b :: r) ++ (g5 ++ g6)) → lo ≤ c ∧ c < W0.heap.size := hbl
 have hbin := hin b (by simp)
 have hbg : b ≠ g := fun e => hgb (by rw [← e]; simp)
 refine ⟨b, off, d4, row0, rfl, hbin.1, hbin.2, hbg, hR0, ⟨blk0, hl0⟩, fun W2 hR => ?_⟩
 have hfresh : ∀ c ∈ blk, c ∉ g2 ++ ((b :: r) ++ (g5 ++ g6)) := fun c hc q => by have := hbk c hc; have := hin c q; omega
 have hE : Ext (fun q => q = b) W W2 := hR.ext.mono (fun k _ q => by rcases q with q | q; exact q; cases q)
 have hbb : b ∉ blk := fun q => hfresh b q (by simp)
 have hO2 : ab.ax.Own W2 row n blk := hO.ext hE (fun c hc e => hbb (e ▸ hc))
 obtain ⟨r', hA', hm', hn'⟩ := hA.put hk (x' := n) hR hO2.1 hbb
 rw [List.nodup_append, List.nodup_append, List.nodup_append] at hnd
 obtain ⟨n2, ⟨n4, ⟨n5, n6, x56⟩, x4⟩, x2⟩ := hnd
 rw [List.nodup_cons] at n4
 have hr' : r'.Nodup := hn' n4.2 hO2.2.1 (fun c hc q => hfresh c hc (by simp [q]))
 have hsz : W.heap.size ≤ W2.heap.size := hE.size
 have O4' : (ab.sl ab.ax).Own W2 [.slice (some ⟨b, off, none⟩) y.nodes.length d4] (y.nodes.set k n) (b :: r') := by
  refine ⟨hA'.1, List.nodup_cons.2 ⟨hA'.2.1, hr'⟩, fun c hc o => ?_⟩
  rcases List.mem_cons.1 hc with rfl | hc
  ·
   exact hA'.2.2 o
  rcases hm' c hc with q | q
  ·
   have hcb : c ≠ b := fun e => n4.1 (e ▸ q)
   have hlt : c < W.heap.size := Nat.lt_of_lt_of_le (hin c (by simp [q])).2 hb.size
   rw [frozen_of_heap (hE.block c hlt hcb) o]
   exact O4.2.2 c (by simp [q]) o
  exact hO2.2.2 c q o
 have nb2 : b ∉ g2 := fun q => x2 b q b (by simp) rfl
 have nb5 : b ∉ g5 := fun q => x4 b (by simp) b (by simp [q]) rfl
 have nb6 : b ∉ g6 := fun q => x4 b (by simp) b (by simp [q]) rfl
 have P2 := O2.ext hE (fun c hc e => nb2 (e ▸ hc))
 have P5 := O5.ext hE (fun c hc e => nb5 (e ▸ hc))
 have P6 := O6.ext hE (fun c hc e => nb6 (e ▸ hc))
 have hmem : ∀ c ∈ b :: r', c ∈ b :: r ∨ c ∈ blk := fun c hc => by
  rcases List.mem_cons.1 hc with rfl | hc
  ·
   simp
  rcases hm' c hc with q | q
  ·
   exact Or.inl (by simp [q])
  exact Or.inr q
 refine ⟨g2 ++ ((b :: r') ++ (g5 ++ g6)), eE (x := gX y k n) P2 O4' P5 P6 w0 w1 ?_, ?_, ?_⟩
 ·
  rw [List.nodup_append, List.nodup_append, List.nodup_append]
  refine ⟨n2, ⟨List.nodup_cons.2 ⟨hA'.2.1, hr'⟩, ⟨n5, n6, x56⟩, fun a ha c hc e => ?_⟩, fun a ha c hc e => ?_⟩
  ·
   rcases hmem a ha with q | q
   ·
    exact x4 a q c hc e
   exact hfresh a q (by rw [e]; simp only [List.mem_append] at hc ⊢; exact Or.inr (Or.inr hc))
  rcases List.mem_append.1 hc with q | q
  ·
   rcases hmem c q with q | q
   ·
    exact x2 a ha c (List.mem_append_left _ q) e
   exact hfresh c q (by rw [← e]; exact List.mem_append_left _ ha)
  exact x2 a ha c (List.mem_append_right _ q) e
 ·
  intro q
  rcases List.mem_append.1 q with q | q
  ·
   exact hgb (List.mem_append_left _ q)
  rcases List.mem_append.1 q with q | q
  ·
   rcases hmem g q with q | q
   ·
    exact hgb (List.mem_append_right _ (List.mem_append_left _ q))
   have := hbk g q; omega
  exact hgb (List.mem_append_right _ (List.mem_append_right _ q))
 intro c hc
 have hold : c ∈ g2 ++ ((b :: r) ++ (g5 ++ g6)) ∨ c ∈ blk := by
  rcases List.mem_append.1 hc with q | q
  ·
   exact Or.inl (List.mem_append_left _ q)
  rcases List.mem_append.1 q with q | q
  ·
   rcases hmem c q with q | q
   ·
    exact Or.inl (List.mem_append_right _ (List.mem_append_left _ q))
   exact Or.inr q
  exact Or.inl (List.mem_append_right _ (List.mem_append_right _ q))
 have hz := hb.size
 rcases hold with q | q
 ·
  have := hin c q; omega
 have := hbk c q; omega
theorem du (n : Int) (w : World) :
  Calls Tryz.prog 182 #[.int .i64 n] w fun e w' => e = .returned (.bool (decide (1 ≤ n) && decide (n ≤ 5))) ∧ w' = w := by
 by_cases h1 : 1 ≤ n
 ·
  have d1 : decide (1 ≤ n) = true := by simpa using h1
  rw [d1]
  cases d2 : decide (n ≤ 5) <;>
  ·
   go_enter Tryz.func182, Tryz.ntmps182
   go_wp2_with fail
   go_ret
   exact ⟨rfl, rfl⟩
 have d1 : decide (1 ≤ n) = false := by simpa using h1
 rw [d1]
 go_enter Tryz.func182, Tryz.ntmps182
 go_wp2_with fail
 go_ret
 exact ⟨rfl, rfl⟩
theorem dy (n : Int) (w : World) :
  Calls Tryz.prog 126 #[.int .i64 n] w fun e w' => e = .returned (.bool (decide (1 ≤ n) && decide (n ≤ 999))) ∧ w' = w := by
 by_cases h1 : 1 ≤ n
 ·
  have d1 : decide (1 ≤ n) = true := by simpa using h1
  rw [d1]
  cases d2 : decide (n ≤ 999) <;>
  ·
   go_enter Tryz.func126, Tryz.ntmps126
   go_wp2_with fail
   go_ret
   exact ⟨rfl, rfl⟩
 have d1 : decide (1 ≤ n) = false := by simpa using h1
 rw [d1]
 go_enter Tryz.func126, Tryz.ntmps126
 go_wp2_with fail
 go_ret
 exact ⟨rfl, rfl⟩
theorem pc {w : World} {b off cap : Nat} {zs : List Int} (h : (ab.sl ab.int).Reads w [.slice (some ⟨b, off, none⟩) zs.length cap] zs) (m n c : Nat) (hm : m + n ≤ zs.length) (hc : n ≤ c) :
  (ab.sl ab.int).Reads w [.slice (some ⟨b, off + m, none⟩) n c] ((zs.drop m).take n) := by
 have hi := ab.bc h
 have hbig := h.et
 obtain ⟨ao, cp, e, hwf, hcs⟩ := hi
 have hlen : ((zs.drop m).take n).length = n := by simp; omega
 refine ab.ka ?_ (fun ao' cap' e' => ?_) (by rw [hlen]; omega)
 ·
  refine ⟨_, c, by rw [hlen], fun z hz => hwf z (List.mem_of_mem_drop (List.mem_of_mem_take hz)), fun hp => ⟨b, off + m, rfl, fun j hj => ?_⟩⟩
  rw [hlen] at hp hj
  obtain ⟨b', off', hao, hc1⟩ := hcs (by omega)
  simp only [Value.slice.injEq] at e
  obtain ⟨rfl, -, -⟩ := e
  simp only [Option.some.injEq, Addr.mk.injEq, and_true] at hao
  obtain ⟨rfl, rfl⟩ := hao
  rw [Nat.add_assoc, hc1 (m + j) (by omega)]
  simp only [List.getD]
  rw [List.getElem?_take, if_pos hj, List.getElem?_drop]
 simp only [Value.slice.injEq] at e'
 rw [hlen]
 omega
theorem oy {w : World} {ao : Option Addr} {n cap : Nat} {zs : List Int} (h : (ab.sl ab.int).Reads w [.slice ao n cap] zs) (k : Nat) (hk : k ≤ zs.length) :
  (ab.sl ab.int).Reads w [.slice ao k cap] (zs.take k) := by
 have hc := h.cap
 by_cases h0 : k = 0
 ·
  subst h0
  rw [List.take_zero]
  exact ab.ka ⟨ao, cap, rfl, by simp, fun hp => by simp at hp⟩ (fun _ _ _ => by simp) (by simp)
 have hi := ab.bc h
 obtain ⟨ao', cp, e, hwf, hcs⟩ := hi
 obtain ⟨b', off', hao, hc1⟩ := hcs (by omega)
 simp only [Value.slice.injEq] at e
 obtain ⟨rfl, rfl, rfl⟩ := e
 subst hao
 have := pc h 0 k cap (by omega) (by omega)
 simpa using this
theorem iu (n : Int) (w : World) :
  Calls Tryz.prog 128 #[.int .i64 n] w fun e w' => e = .returned (.bool (decide (1 ≤ n) && decide (n ≤ 5))) ∧ w' = w := by
 by_cases h1 : 1 ≤ n
 ·
  have d1 : decide (1 ≤ n) = true := by simpa using h1
  rw [d1]
  cases d2 : decide (n ≤ 5) <;>
  ·
   go_enter Tryz.func128, Tryz.ntmps128
   go_wp2_with fail
   go_ret
   exact ⟨rfl, rfl⟩
 have d1 : decide (1 ≤ n) = false := by simpa using h1
 rw [d1]
 go_enter Tryz.func128, Tryz.ntmps128
 go_wp2_with fail
 go_ret
 exact ⟨rfl, rfl⟩
theorem vd (v : Value) (ids : List Int) (id : Int) (w : World) (R : (ab.sl ab.int).Reads w [v] ids) :
  Calls Tryz.prog 215 #[v, .int .i64 id] w fun e w' => e = .returned (.int .i64 (bK ids id)) ∧ w' = w := by
 obtain ⟨ao, cap, rfl⟩ := aI R
 have hbig := R.et
 have H := yh R
 clear R
 go_enter Tryz.func215, Tryz.ntmps215
 go_wp2_with fail
 go_loop [8] (fun i => ∃ k : Nat, k ≤ ids.length ∧ i = .int .i64 k ∧ (∀ j (hj : j < ids.length), j < k → ids[j] ≠ id)) (fun i => ids.length - (intOf i).toNat)
 case atStart => exact ⟨0, Nat.zero_le _, rfl, fun j _ h => by omega⟩
 case round =>
  obtain ⟨k, hk, rfl, hz⟩ := hrel
  by_cases hlt : k < ids.length
  ·
   obtain ⟨b2, off, rfl, -⟩ := ab.aS (uh H) (by omega)
   have c1 := eB (uh H) hlt
   cases hq : (id == ids[k])
   ·
    have HZ : Hid (∀ j (hj : j < ids.length), j < k + 1 → ids[j] ≠ id) := fun j hj hjk => by
     by_cases h2 : j < k
     ·
      exact hz j hj h2
     obtain rfl : j = k := by omega
     intro h3
     rw [h3] at hq
     simp at hq
    clear hz
    generalize ids[k] = z at *
    go_wp2_with fail
    go_round
    case rel => exact ⟨k + 1, by omega, by go_num, uh HZ⟩
    case measure => simp [intOf]; omega
   have HP := yh (iH hlt (beq_iff_eq.1 hq).symm (fun j hj => hz j (by omega) hj))
   clear hz
   generalize ids[k] = z at *
   go_wp2_with fail
   go_ret
   exact ⟨by rw [uh HP]; rfl, rfl⟩
  obtain rfl : k = ids.length := by omega
  have HP := yh (jr (id := id) (fun j hj => hz j hj hj))
  clear hz
  go_wp2_with fail
  go_ret
  exact ⟨by rw [uh HP]; rfl, rfl⟩
theorem lp (v : Value) (ids : List Int) (id : Int) (w : World) (R : (ab.sl ab.int).Reads w [v] ids) :
  Calls Tryz.prog 183 #[v, .int .i64 id] w fun e w' => e = .returned (.bool (decide (0 ≤ bK ids id))) ∧ w' = w := by
 have HL := yh (vd v ids id w R)
 obtain ⟨ao, cap, rfl⟩ := aI R
 generalize bK ids id = n at *
 clear R
 go_enter Tryz.func183, Tryz.ntmps183
 go_wp2_with fail
 refine (uh HL).mono ?_
 rintro e w1 ⟨rfl, h1⟩
 subst w1
 clear HL
 go_wp2_with fail
 go_ret
 exact ⟨rfl, rfl⟩
def dT (ids : List Int) : Int := if 1 ≤ ids.length ∧ ids.length ≤ 5 then fW [] ids else 2
theorem kg {ids : List Int} (h : (decide (1 ≤ (ids.length : Int)) && decide ((ids.length : Int) ≤ 5)) = false) : dT ids = 2 := by
 rw [dT, if_neg]
 intro h2
 rw [decide_eq_true (by omega), decide_eq_true (by omega)] at h
 simp at h
theorem kJ {ids : List Int} (h : (decide (1 ≤ (ids.length : Int)) && decide ((ids.length : Int) ≤ 5)) = true) : dT ids = fW (ids.take 0) (ids.drop 0) := by
 rw [dT, if_pos]
 ·
  simp
 simp at h
 omega
theorem ly (ids : List Int) (z : Int) : decide (0 ≤ bK ids z) = true ↔ z ∈ ids := by
 have h := kn ids z
 rw [decide_eq_true_iff]
 constructor
 ·
  intro h1
  refine Decidable.byContradiction fun h2 => ?_
  have := h.2 h2
  omega
 intro h1
 refine Decidable.byContradiction fun h2 => ?_
 exact h.1 (by omega) h1
theorem qo (v : Value) (ids : List Int) (w : World) (R : (ab.sl ab.int).Reads w [v] ids) :
  Calls Tryz.prog 127 #[v] w fun e w' => e = .returned (.int .i64 (dT ids)) ∧ w' = w := by
 obtain ⟨ao, cap, rfl⟩ := aI R
 have hbig := R.et
 have hcap := R.cap
 have H := yh R
 clear R
 go_enter Tryz.func127, Tryz.ntmps127
 go_wp2_with fail
 refine (iu (ids.length : Int) w).mono ?_
 rintro e w1 ⟨rfl, h1⟩
 subst w1
 cases d1 : (decide (1 ≤ (ids.length : Int)) && decide ((ids.length : Int) ≤ 5))
 ·
  have HF := yh (kg d1)
  clear d1
  go_wp2_with fail
  go_ret
  exact ⟨by rw [uh HF]; rfl, rfl⟩
 have HF := yh (kJ d1)
 clear d1
 go_wp2_with fail
 go_loop [11] (fun i => ∃ k : Nat, k ≤ ids.length ∧ i = .int .i64 k ∧ dT ids = fW (ids.take k) (ids.drop k)) (fun i => ids.length - (intOf i).toNat)
 case atStart => exact ⟨0, Nat.zero_le _, rfl, uh HF⟩
 case round =>
  obtain ⟨k, hk, rfl, hz⟩ := hrel
  clear HF
  by_cases hlt : k < ids.length
  ·
   rw [lT ids k hlt] at hz
   obtain ⟨b2, off, rfl, -⟩ := ab.aS (uh H) (by omega)
   have c1 := eB (uh H) hlt
   have HC := yh (lp (.slice (some ⟨b2, off, none⟩) k cap) (ids.take k) ids[k] w (oy (uh H) k (by omega)))
   have HM := yh (ly (ids.take k) ids[k])
   have hdl : decide ((k : Int) < (ids.length : Int)) = true := by simp; omega
   have HZ := yh hz
   have hkc : k ≤ cap := by omega
   clear hz
   generalize ids[k] = z at *
   generalize ids.take k = zk at *
   go_wp2_with fail
   refine (du z w).mono ?_
   rintro e w1 ⟨rfl, h1⟩
   subst w1
   cases d2 : (decide (1 ≤ z) && decide (z ≤ 5))
   ·
    have hz := uh HZ
    rw [if_neg (by intro h; simp at d2; omega)] at hz
    have HF := yh hz
    clear hz HZ d2
    go_wp2_with fail
    go_ret
    exact ⟨by rw [uh HF]; rfl, rfl⟩
   have hz := uh HZ
   rw [if_pos (by simpa using d2)] at hz
   clear HZ d2
   have HZ := yh hz
   clear hz
   go_wp2_with fail
   refine (uh HC).mono ?_
   rintro e w1 ⟨rfl, h1⟩
   subst w1
   cases d3 : decide (0 ≤ bK zk z)
   ·
    have hz := uh HZ
    rw [if_neg (fun hm => by rw [(uh HM).2 hm] at d3; simp at d3)] at hz
    have HF := yh hz
    clear hz HZ d3 HM HC
    go_wp2_with fail
    go_round
    case rel => exact ⟨k + 1, by omega, by go_num, uh HF⟩
    case measure => simp [intOf]; omega
   have hz := uh HZ
   rw [if_pos ((uh HM).1 d3)] at hz
   have HF := yh hz
   clear hz HZ d3 HM HC
   go_wp2_with fail
   go_ret
   exact ⟨by rw [uh HF]; rfl, rfl⟩
  obtain rfl : k = ids.length := by omega
  rw [nS] at hz
  have HF := yh hz
  clear hz
  go_wp2_with fail
  go_ret
  exact ⟨by rw [uh HF]; rfl, rfl⟩
theorem tS {x : bQ} (h : (decide (1 ≤ x.ae) && decide (x.ae ≤ 999)) = false) : aX x = 3 := by rw [aX, if_neg (by simp at h; omega)]
theorem uB {x : bQ} (h : (decide (1 ≤ x.ae) && decide (x.ae ≤ 999)) = true) : aX x = dT x.ids := by rw [aX, if_pos (by simp at h; omega), dT]
theorem ki (cs : List Value) (x : bQ) (w : World) (h : ab.aH.Reads w cs x) :
  Calls Tryz.prog 67 #[.agg cs.toArray] w fun e w' => e = .returned (.int .i64 (aX x)) ∧ Below w.heap.size w w' := by
 obtain ⟨a, d, rfl, R⟩ := cb h
 have nb : Below w.heap.size w (w.alloc (.cells #[.int .i64 x.ae, .slice a x.ids.length d] 34)) := (Below.refl _ _).alloc (Nat.le_refl _) _
 have HR := yh (R.later nb)
 have HB := yh nb
 have HX : Hid (aA 0 #[.int .i64 x.ae, .slice a x.ids.length d] 34 (w.alloc (.cells #[.int .i64 x.ae, .slice a x.ids.length d] 34)) w.heap.size) := aD (Nat.zero_le _)
 clear R h nb
 go_enter Tryz.func67, Tryz.ntmps67
 go_upto_region 1 with fail
 generalize w.alloc (.cells #[.int .i64 x.ae, .slice a x.ids.length d] 34) = W at *
 have z0 : W.cell? ⟨w.heap.size, 0, none⟩ = some (.int .i64 x.ae) := (uh HX).at 0 _ rfl
 have z1 : W.cell? ⟨w.heap.size, 1, none⟩ = some (.slice a x.ids.length d) := (uh HX).at 1 _ rfl
 clear HX
 cases d1 : (decide (1 ≤ x.ae) && decide (x.ae ≤ 999))
 ·
  have HF := yh (tS d1)
  have L := yh (dy x.ae W)
  rw [d1] at L
  clear d1
  go_wp2_with fail
  refine (uh L).mono ?_
  rintro e w1 ⟨rfl, h1⟩
  subst w1
  clear L
  go_wp2_with fail
  go_ret
  exact ⟨by rw [uh HF]; rfl, uh HB⟩
 have HF := yh (uB d1)
 have L := yh (dy x.ae W)
 rw [d1] at L
 clear d1
 go_wp2_with fail
 refine (uh L).mono ?_
 rintro e w1 ⟨rfl, h1⟩
 subst w1
 clear L
 have L := yh (qo _ x.ids _ (uh HR))
 go_wp2_with fail
 refine (uh L).mono ?_
 rintro e w1 ⟨rfl, h1⟩
 subst w1
 clear L
 go_wp2_with fail
 go_ret
 exact ⟨by rw [uh HF]; rfl, uh HB⟩
theorem eN (n m : Int) (w : World) :
  Calls Tryz.prog 66 #[.int .i64 n, .int .i64 m] w fun e w' => e = .returned (.bool (decide (0 ≤ n) && decide (n ≤ m))) ∧ w' = w := by
 by_cases h1 : 0 ≤ n
 ·
  have d1 : decide (0 ≤ n) = true := by simpa using h1
  rw [d1]
  cases d2 : decide (n ≤ m) <;>
  ·
   go_enter Tryz.func66, Tryz.ntmps66
   go_wp2_with fail
   go_ret
   exact ⟨rfl, rfl⟩
 have d1 : decide (0 ≤ n) = false := by simpa using h1
 rw [d1]
 go_enter Tryz.func66, Tryz.ntmps66
 go_wp2_with fail
 go_ret
 exact ⟨rfl, rfl⟩
def cJ (ws : List aj) : Int := if 40 < ws.length then 2 else if cx ws ≠ 0 then cx ws else if dk [] ws = false then 6 else 0
def dO (x : aV) : Bool := (x.sure == (x.writes.length : Int)) && (x.clean == 0 && x.au == 0)
theorem uM {x : aV} (h : (decide (1 ≤ x.id) && decide (x.id ≤ 5)) = false) : aJ x = 3 := by
 simp only [Bool.and_eq_false_iff, decide_eq_false_iff_not] at h
 rw [aJ, if_neg (by omega)]
theorem m0 {x : aV} (h : (decide (0 ≤ x.ae) && decide (x.ae ≤ 999)) = false) : aJ x = 3 := by
 simp only [Bool.and_eq_false_iff, decide_eq_false_iff_not] at h
 rw [aJ, if_neg (by omega)]
theorem ny {x : aV} (h : (decide (0 ≤ x.au) && decide (x.au ≤ 9999)) = false) : aJ x = 3 := by
 simp only [Bool.and_eq_false_iff, decide_eq_false_iff_not] at h
 rw [aJ, if_neg (by omega)]
theorem pO {x : aV} (h1 : (decide (1 ≤ x.id) && decide (x.id ≤ 5)) = true) (h2 : (decide (0 ≤ x.ae) && decide (x.ae ≤ 999)) = true) (h3 : (decide (0 ≤ x.au) && decide (x.au ≤ 9999)) = true) :
  aJ x = if cJ x.writes ≠ 0 then cJ x.writes else if (decide (0 ≤ x.sure) && decide (x.sure ≤ (x.writes.length : Int))) = true ∧ (decide (0 ≤ x.clean) && decide (x.clean ≤ x.sure)) = true then (if x.up = false ∧ dO x = false then 1 else 0) else 3 := by
 simp only [Bool.and_eq_true, decide_eq_true_eq] at *
 rw [aJ, if_pos (by omega), cJ]
 by_cases q1 : 40 < x.writes.length
 ·
  simp only [if_pos q1]; rfl
 simp only [if_neg q1]
 by_cases q2 : cx x.writes ≠ 0
 ·
  simp only [if_pos q2]
 simp only [if_neg q2]
 by_cases q3 : dk [] x.writes = false
 ·
  simp only [if_pos q3]; rfl
 simp only [if_neg q3]
 rw [if_neg (by simp : ¬ ((0 : Int) ≠ 0))]
 have e1 : (0 ≤ x.sure ∧ x.sure ≤ (x.writes.length : Int) ∧ 0 ≤ x.clean ∧ x.clean ≤ x.sure) ↔ ((0 ≤ x.sure ∧ x.sure ≤ (x.writes.length : Int)) ∧ 0 ≤ x.clean ∧ x.clean ≤ x.sure) := by constructor <;> (intro h; omega)
 have e2 : ¬ (x.sure = (x.writes.length : Int) ∧ x.clean = 0 ∧ x.au = 0) ↔ dO x = false := by
  unfold dO
  rw [← Bool.not_eq_true]
  simp
 simp only [e1, e2]
theorem fQ : (Tryz.prog.info? 44).map (fun i => (i.zero, i.size, i.bytes)) = some (some (.agg #[.int .i64 0, .int .i64 0, .slice none 0 0, .int .i64 0, .int .i64 0]), 5, 56) := by kernel_rfl
theorem iL {w : World} {row : List Value} {x : aj} {bl : List Nat} (h : ab.ag.bg w row x bl) : (∀ u ∈ row, u.oneCell' = true) ∧ row.length = 1 * 5 := by
 obtain ⟨_, _, _, rfl, -⟩ := ch.1 h
 simp [Value.oneCell']
theorem gE {w1 : World} {base : Nat} {v : Value} {rows : List (List Value)} {xs : List aj} {bls : List (List Nat)} (hG : bU ab.ag w1 base 44 v rows xs bls) {row : List Value} {x : aj} {bl : List Nat} (hl : ab.ag.bg w1 row x bl) (hbl : ∀ b ∈ bl, v.ownBlock ≠ some b) {ops : Array Oper} {rest : List Oper} {o : Oper} {a : Act} {Q : Exit → Act → World → Prop} (hgd : o.guard = none) (s y : Operand)
  (ho : o.op = .call { callee := .builtin .append, args := #[s, y], argTypes := #[61, 61] }) (hs : a.eval s = v) (hy : a.eval y = .slice (some ⟨w1.heap.size, 0, none⟩) 1 1) (hn : xs.length + 1 ≤ 100000000) (hbase : base ≤ w1.heap.size)
  (h : ∀ g cap w', bU ab.ag w' base 44 (.slice (some ⟨g, 0, none⟩) (xs.length + 1) cap) (rows ++ [row]) (xs ++ [x]) (bls ++ [bl]) → Below base w1 w' → Ext (fun q => v.ownBlock = some q) w1 w' → g < w'.heap.size → w1.heap.size ≤ w'.heap.size → (v.ownBlock = some g ∨ w1.heap.size ≤ g) → wpList Tryz.prog ops Q rest (a.put o.dst (.slice (some ⟨g, 0, none⟩) (xs.length + 1) cap)) w') :
  wpList Tryz.prog ops Q (o :: rest) a (w1.alloc (.cells row.toArray 44)) := by
 obtain ⟨i0, hi0, hz0, hz1, hz2⟩ := info_parts fQ
 obtain ⟨h1, hlen⟩ := iL hl
 refine wpList_append_lies _ hgd s y 61 ho base 44 i0 _ 5 56 Tryz.underlying61 hi0 hz0 hz1 hz2 rfl (by omega) v xs.length rows.flatten hs (hG.own.alloc _) ⟨w1.heap.size, 0, none⟩ 1 1 row hy hlen (World.news_of_block (cs := row.toArray) (t := 44) (fr := (0, 0)) (heap_alloc_new w1 _)) h1 (by omega) (by unfold maxLen; omega) (by omega) (by simp; omega) (w1.alloc (.cells row.toArray 44)).heap.size rfl ?_
 intro g cap w' h2 h3 h4 h5
 have hg := dV h3
 have hbw : Below base w1 w' := (Below.refl _ _).grown hg hbase (fun j hj => (hG.own.lt j hj).1)
 have hor : v.ownBlock = some g ∨ w1.heap.size ≤ g := by
  rcases h4 with h4 | h4
  ·
   exact Or.inl h4
  exact Or.inr (by rw [h4]; simp)
 exact h g cap w' (hG.snoc hl hbl h2 hg hor) hbw ⟨hbw.os, hbw.tape, hbw.output, hbw.size, fun k hk hn => hg.block k hk (fun e => hn e.symm)⟩ h5 hbw.size hor
theorem fj {w1 : World} {base : Nat} {v : Value} {rows : List (List Value)} {xs : List aj} {bls : List (List Nat)} (hG : bU ab.ag w1 base 44 v rows xs bls) {row : List Value} {x : aj} {bl : List Nat} (hl : ab.ag.bg w1 row x bl) (hbl : ∀ b ∈ bl, v.ownBlock ≠ some b) {ops : Array Oper} {o : Oper} {a : Act} {K : Act → World → Prop} {Q : Exit → Act → World → Prop} {E : Prop} (hgd : o.guard = none) (s y : Operand)
  (ho : o.op = .call { callee := .builtin .append, args := #[s, y], argTypes := #[61, 61] }) (hs : a.eval s = v) (hy : a.eval y = .slice (some ⟨w1.heap.size, 0, none⟩) 1 1) (hn : xs.length + 1 ≤ 100000000) (hbase : base ≤ w1.heap.size)
  (h : ∀ g cap w', bU ab.ag w' base 44 (.slice (some ⟨g, 0, none⟩) (xs.length + 1) cap) (rows ++ [row]) (xs ++ [x]) (bls ++ [bl]) → Below base w1 w' → Ext (fun q => v.ownBlock = some q) w1 w' → g < w'.heap.size → w1.heap.size ≤ w'.heap.size → (v.ownBlock = some g ∨ w1.heap.size ≤ g) → K (a.put o.dst (.slice (some ⟨g, 0, none⟩) (xs.length + 1) cap)) w') :
  if Region.wanted o (yielded ops a.tmps) = true then Oper.wp Tryz.prog o a (w1.alloc (.cells row.toArray 44)) K Q else E := by
 obtain ⟨i0, hi0, hz0, hz1, hz2⟩ := info_parts fQ
 obtain ⟨h1, hlen⟩ := iL hl
 refine step_append_lies _ hgd s y 61 ho base 44 i0 _ 5 56 Tryz.underlying61 hi0 hz0 hz1 hz2 rfl (by omega) v xs.length rows.flatten hs (hG.own.alloc _) ⟨w1.heap.size, 0, none⟩ 1 1 row hy hlen (World.news_of_block (cs := row.toArray) (t := 44) (fr := (0, 0)) (heap_alloc_new w1 _)) h1 (by omega) (by unfold maxLen; omega) (by omega) (by simp; omega) (w1.alloc (.cells row.toArray 44)).heap.size rfl ?_
 intro g cap w' h2 h3 h4 h5
 have hg := dV h3
 have hbw : Below base w1 w' := (Below.refl _ _).grown hg hbase (fun j hj => (hG.own.lt j hj).1)
 have hor : v.ownBlock = some g ∨ w1.heap.size ≤ g := by
  rcases h4 with h4 | h4
  ·
   exact Or.inl h4
  exact Or.inr (by rw [h4]; simp)
 exact h g cap w' (hG.snoc hl hbl h2 hg hor) hbw ⟨hbw.os, hbw.tape, hbw.output, hbw.size, fun k hk hn => hg.block k hk (fun e => hn e.symm)⟩ h5 hbw.size hor
theorem Ext.ku {S : Nat → Prop} {a b : World} (h : Ext S a b) : Ext S a b.drew := ⟨h.os, h.tape, h.output, h.size, h.block⟩
theorem Ext.oC {S : Nat → Prop} {a b : World} (h : Ext S a b) (o : Obj) : Ext S a (b.alloc o) := h.trans (az ((Below.refl _ _).alloc (Nat.le_refl _) o) S)
theorem mo (k i : Int) (u1 : Option Addr) (u2 u3 : Nat) (s q : Int) (w : World) :
  Calls Tryz.prog 163 #[.agg #[.int .i64 k, .int .i64 i, .slice u1 u2 u3, .int .i64 s, .int .i64 q]] w fun e w' => e = .returned (tick s q) ∧ Below w.heap.size w w' := by
 have HB : Hid (∀ o o', Below w.heap.size w ((w.alloc o).alloc o')) := fun o o' => ((Below.refl _ _).alloc (Nat.le_refl _) _).alloc (by simp) _
 go_enter Tryz.func163, Tryz.ntmps163
 go_wp2_with fail
 refine bodyPost_ret (v := .agg #[.int .i64 s, .int .i64 q]) (by simp [results, Tryz.results163, go_sem]) rfl ?_
 exact ⟨rfl, uh HB _ _⟩
theorem uG {w : World} {p mb N : Nat} {ws : List aj} {v : Value} {rows : List (List Value)} {bls : List (List Nat)} (h : Told w p mb N ws v rows bls) {cs : List Value} {x : aj} {bl : List Nat} (hl : ab.ag.bg w cs x bl) (hX : ∀ b ∈ bl, N ≤ b ∧ ∀ o, w.frozen? ⟨b, o, none⟩ = false) (hnd : bl.Nodup) (hNw : N ≤ w.heap.size) (hf : wF x = 0) (hn : ws.length < 1000) :
  Calls Tryz.prog 141 #[.pointer (some ⟨p, 0, none⟩), .agg cs.toArray] w fun e w' => e = .returned (.tuple #[]) ∧ (∃ v' rows' bls', Told w' p mb w'.heap.size (ws ++ [x]) v' rows' bls') ∧ Below mb w w' := by
 obtain ⟨a2, d2, b2, rfl, rfl, -, -, -, k3, k4⟩ := ch.1 hl
 have nb : Below w.heap.size w (w.alloc (.cells #[.int .i64 x.kind, .int .i64 x.id, .slice a2 x.vec.length d2, .int .i64 x.aa, .int .i64 x.seq] 44)) := (Below.refl _ _).alloc (Nat.le_refl _) _
 have hQ0 : aA 0 #[.int .i64 x.kind, .int .i64 x.id, .slice a2 x.vec.length d2, .int .i64 x.aa, .int .i64 x.seq] 44 (w.alloc (.cells #[.int .i64 x.kind, .int .i64 x.id, .slice a2 x.vec.length d2, .int .i64 x.aa, .int .i64 x.seq] 44)) w.heap.size := aD (Nat.zero_le _)
 have hT0 := h.later nb
 have hL0 : ab.ag.bg (w.alloc (.cells #[.int .i64 x.kind, .int .i64 x.id, .slice a2 x.vec.length d2, .int .i64 x.aa, .int .i64 x.seq] 44)) [.int .i64 x.kind, .int .i64 x.id, .slice a2 x.vec.length d2, .int .i64 x.aa, .int .i64 x.seq] x bl := ab.ag.ai hl fun b hb => nb.block b (ab.ag.lt hl b hb)
 have hpw := h.box.lt
 have hmp := h.lt
 have HNW := yh hNw
 have hF0 : ∀ b ∈ bl, ∀ o, (w.alloc (.cells #[.int .i64 x.kind, .int .i64 x.id, .slice a2 x.vec.length d2, .int .i64 x.aa, .int .i64 x.seq] 44)).frozen? ⟨b, o, none⟩ = false := fun b hb o => (cL (nb.block b (ab.ag.lt hl b hb)) o).trans ((hX b hb).2 o)
 have hBw : Below mb w (w.alloc (.cells #[.int .i64 x.kind, .int .i64 x.id, .slice a2 x.vec.length d2, .int .i64 x.aa, .int .i64 x.seq] 44)) := nb.mono (by omega)
 go_enter Tryz.func141, Tryz.ntmps141
 go_wp2_with fail
 generalize hW0 : w.alloc (.cells #[.int .i64 x.kind, .int .i64 x.id, .slice a2 x.vec.length d2, .int .i64 x.aa, .int .i64 x.seq] 44) = W0 at *
 clear hW0
 have hHD : Ext (fun c => c = p ∨ v.ownBlock = some c) W0 W0.drew := (Ext.refl _ _).ku
 have hTD : Told W0.drew p mb N ws v rows bls := hT0.later (dg (Below.refl _ _) 1)
 have hLD : ab.ag.bg W0.drew [.int .i64 x.kind, .int .i64 x.id, .slice a2 x.vec.length d2, .int .i64 x.aa, .int .i64 x.seq] x bl := hL0
 have hFD : ∀ b ∈ bl, ∀ o, W0.drew.frozen? ⟨b, o, none⟩ = false := hF0
 refine wZz (fun w' => Ext (fun c => c = p ∨ v.ownBlock = some c) W0 w') (Ext.refl _ _).ku (fun zq => ?_)
 generalize W0.drew = wD at zq hTD hLD hHD hFD ⊢
 refine tkH 0 zq ?_
 refine tkH 1 zq ?_
 refine tkH 2 zq ?_
 refine tkH 3 zq ?_
 refine tkJ 5 (v := ?va5) ?ha5 zq ?ra5
 case ha5 =>
  intro wS hSw
  have y0 : wS.cell? ⟨w.heap.size, 0, none⟩ = some (.int .i64 x.kind) := (hQ0.ext hSw (by first | (rintro (e | e); omega; have := h.pZ _ e; have := uh HNW; omega) | (intro e; omega) | exact fun e => e)).at 0 _ rfl
  have y1 : wS.cell? ⟨w.heap.size, 1, none⟩ = some (.int .i64 x.id) := (hQ0.ext hSw (by first | (rintro (e | e); omega; have := h.pZ _ e; have := uh HNW; omega) | (intro e; omega) | exact fun e => e)).at 1 _ rfl
  have y2 : wS.cell? ⟨w.heap.size, 2, none⟩ = some (.slice a2 x.vec.length d2) := (hQ0.ext hSw (by first | (rintro (e | e); omega; have := h.pZ _ e; have := uh HNW; omega) | (intro e; omega) | exact fun e => e)).at 2 _ rfl
  have y3 : wS.cell? ⟨w.heap.size, 3, none⟩ = some (.int .i64 x.aa) := (hQ0.ext hSw (by first | (rintro (e | e); omega; have := h.pZ _ e; have := uh HNW; omega) | (intro e; omega) | exact fun e => e)).at 3 _ rfl
  have y4 : wS.cell? ⟨w.heap.size, 4, none⟩ = some (.int .i64 x.seq) := (hQ0.ext hSw (by first | (rintro (e | e); omega; have := h.pZ _ e; have := uh HNW; omega) | (intro e; omega) | exact fun e => e)).at 4 _ rfl
  clear hSw
  exact fZ
 refine (fun (REST : ?T) => ?main) ?rest
 case main =>
  refine wpAnyH_ready (rs := [4, 6]) (by kernel_rfl) (by simp) ?_
  refine AllReadyH.cons (o := ⟨some 11, .load 61 (.tmp 10), 61, "l05_session.go:65", #[⟨3, .data⟩], none⟩) rfl (fun K hK => ?first) (AllReadyH.cons (o := ⟨some 13, .buildSlice 61 1 #[(0, .tmp 12)], 61, "l05_session.go:65", #[⟨5, .data⟩], none⟩) rfl (fun K hK => ?second) AllReadyH.nil)
  case first =>
   have y0 : wD.cell? ⟨p, 0, none⟩ = some v := hTD.box.at 0 _ rfl
   have hp : p < wD.heap.size := hTD.box.lt
   have y1 : ∀ o, (wD.alloc o).cell? ⟨p, 0, none⟩ = some v := fun o => (World.cell?_alloc_lt _ _ _ hp).trans y0
   go_simp
   refine hK.out _ _ zq (fun zq => ?_)
   clear hK K
   try simp only [Act.put, pz, py, px]
   refine rdH 6 (fun K hK => ?_)
   go_simp
   refine hK.out _ _ (zq.oC _) (fun zq => ?_)
   clear hK K
   try simp only [Act.put, pz, py, px]
   exact REST
  case second =>
   go_simp
   refine hK.out _ _ (zq.oC _) (fun zq => ?_)
   clear hK K
   try simp only [Act.put, pz, py, px]
   refine rdH 4 (fun K hK => ?_)
   have y0 : wD.cell? ⟨p, 0, none⟩ = some v := hTD.box.at 0 _ rfl
   have hp : p < wD.heap.size := hTD.box.lt
   have y1 : ∀ o, (wD.alloc o).cell? ⟨p, 0, none⟩ = some v := fun o => (World.cell?_alloc_lt _ _ _ hp).trans y0
   go_simp
   refine hK.out _ _ zq (fun zq => ?_)
   clear hK K
   try simp only [Act.put, pz, py, px]
   exact REST
 case rest =>
 replace zq := zq.oC (.cells #[.int .i64 x.kind, .int .i64 x.id, .slice a2 x.vec.length d2, .int .i64 x.aa, .int .i64 x.seq] 44)
 refine rdH 7 (fun K hK => ?_)
 refine fj hTD.grow (row := [.int .i64 x.kind, .int .i64 x.id, .slice a2 x.vec.length d2, .int .i64 x.aa, .int .i64 x.seq]) (x := x) (bl := bl) hLD (fun c hc e => by have h1 := (hX c hc).1; have h2 := hTD.pZ c e; omega) rfl _ _ rfl rfl rfl (by omega) (by have := hTD.box.lt; omega) ?_
 rintro g5 cp5 w5 hG5 hb5 hE5 hl5 hz5 hor5
 refine hK.out _ _ ((hHD.trans (hE5.mono (fun k _ h => Or.inr h)))) (fun zq => ?_)
 clear hK K
 try simp only [Act.put, pz, py, px]
 refine tkH 8 zq ?_
 refine tkH 9 zq ?_
 refine rdH 10 (fun K hK => ?_)
 have hb6 : aA 0 (eU v mb (aT ws)) 137 w5 p := hTD.box.ext hE5 (fun e => by have := (hTD.grow.own.lt p e).1; omega)
 have c6 : w5.cell? ⟨p, 0, none⟩ = some v := hb6.at 0 _ rfl
 have f6 := hb6.soft 0
 have l6 := hb6.lt
 go_simp
 refine hK.out _ _ ((hHD.trans (hE5.mono (fun k _ h => Or.inr h))).setCell ⟨p, 0, none⟩ _ (Or.inl rfl)) (fun zq => ?_)
 clear hK K
 try simp only [Act.put, pz, py, px]
 refine dZ ?_
 have hnf : (bls ++ [bl]).flatten = bls.flatten ++ bl := by simp
 have hT6 := hTD.added hG5 hE5 (by
  intro b hb
  rw [hnf] at hb
  rcases List.mem_append.1 hb with hb | hb
  ·
   exact ⟨(hTD.sub b hb).1, fun o => (cL (hE5.block b (hTD.grow.sub_lt b hb) (fun e => hTD.grow.off b hb e)) o).trans ((hTD.sub b hb).2 o)⟩
  ·
   refine ⟨by have := (hX b hb).1; have := hTD.pN; omega, fun o => (cL (hE5.block b (ab.ag.lt hLD b hb) (fun e => by have := hTD.pZ b e; have := (hX b hb).1; omega)) o).trans (hFD b hb o)⟩) (by
  rw [hnf, List.nodup_append]
  exact ⟨hTD.nd, hnd, fun b hb c hc e => by have := hTD.vy b hb; have := (hX c hc).1; omega⟩)
 have hQ6 : aA 0 #[.int .i64 x.kind, .int .i64 x.id, .slice a2 x.vec.length d2, .int .i64 x.aa, .int .i64 x.seq] 44 (w5.setCell ⟨p, 0, none⟩ (.slice (some ⟨g5, 0, none⟩) (ws.length + 1) cp5)) w.heap.size := hQ0.ext zq (by rintro (e | e); omega; have := h.pZ _ e; omega)
 have hB6 : Below mb w (w5.setCell ⟨p, 0, none⟩ (.slice (some ⟨g5, 0, none⟩) (ws.length + 1) cp5)) := hBw.trans (zq.below (by have := hBw.size; omega) (by rintro c hc (e | e); omega; have := (h.grow.own.lt c e).1; omega))
 clear zq hTD hLD hHD hFD hG5 hE5 hb5 hl5 hz5 hor5 hT0 hL0 hF0 hQ0 hBw h hl hX hnd nb hnf
 generalize w5.setCell ⟨p, 0, none⟩ (.slice (some ⟨g5, 0, none⟩) (ws.length + 1) cp5) = w6 at hT6 hQ6 hB6 ⊢
 have y0 : w6.cell? ⟨w.heap.size, 0, none⟩ = some (.int .i64 x.kind) := hQ6.at 0 _ rfl
 have y1 : w6.cell? ⟨w.heap.size, 1, none⟩ = some (.int .i64 x.id) := hQ6.at 1 _ rfl
 have y2 : w6.cell? ⟨w.heap.size, 2, none⟩ = some (.slice a2 x.vec.length d2) := hQ6.at 2 _ rfl
 have y3 : w6.cell? ⟨w.heap.size, 3, none⟩ = some (.int .i64 x.aa) := hQ6.at 3 _ rfl
 have y4 : w6.cell? ⟨w.heap.size, 4, none⟩ = some (.int .i64 x.seq) := hQ6.at 4 _ rfl
 go_wp2_with fail
 clear y0 y1 y2 y3 y4
 refine (mo _ _ _ _ _ _ _ w6).mono ?_
 rintro e w7 ⟨rfl, hb7⟩
 have nb8 : Below w6.heap.size w6 (w7.alloc (.cells #[.int .i64 x.aa, .int .i64 x.seq] 139)) := hb7.alloc hb7.size _
 have hT8 := hT6.later nb8
 have hQ8 := hQ6.ai nb8
 have hB8 := hB6.trans (nb8.mono (by have := hT6.lt; have := hT6.box.lt; omega))
 have hR8 : aA 0 #[.int .i64 x.aa, .int .i64 x.seq] 139 (w7.alloc (.cells #[.int .i64 x.aa, .int .i64 x.seq] 139)) w7.heap.size := aD (Nat.zero_le _)
 have hrp : mb < w7.heap.size := by have := hT6.lt; have := hT6.box.lt; have := hb7.size; omega
 simp only [tick]
 go_wp2_with fail
 clear hT6 hQ6 hB6 hb7 nb8
 generalize w7.alloc (.cells #[.int .i64 x.aa, .int .i64 x.seq] 139) = w8 at *
 generalize w7.heap.size = r at *
 have hT9 : dC w8.drew p mb _ ws.length (ws ++ [x]) (aT ws) (fun s q => ck ws s q) (.slice (some ⟨g5, 0, none⟩) (ws.length + 1) cp5) (rows ++ [[.int .i64 x.kind, .int .i64 x.id, .slice a2 x.vec.length d2, .int .i64 x.aa, .int .i64 x.seq]]) (bls ++ [bl]) := hT8.later (dg (Below.refl _ _) 1)
 have hQ9 : aA 0 #[.int .i64 x.kind, .int .i64 x.id, .slice a2 x.vec.length d2, .int .i64 x.aa, .int .i64 x.seq] 44 w8.drew w.heap.size := hQ8
 have hR9 : aA 0 #[.int .i64 x.aa, .int .i64 x.seq] 139 w8.drew r := hR8
 have hB9 : Below mb w w8.drew := hB8.drew
 obtain ⟨bs, hbs⟩ : ∃ bs, bs = decide (ck ws x.aa x.seq ≠ 0) := ⟨_, rfl⟩
 have HBS := yh hbs
 clear hbs
 refine wZz (fun w' => Ext (fun _ => False) w8 w') (Ext.refl _ _).ku (fun zq => ?_)
 generalize w8.drew = w9 at zq hT9 hQ9 hR9 hB9 ⊢
 refine tkH 0 zq ?_
 refine tkH 1 zq ?_
 refine tkH 2 zq ?_
 refine tkJ 3 (v := ?vc3) ?hc3 zq ?rc3
 case hc3 =>
  intro wS hSw
  have z1 : wS.cell? ⟨p, 1, none⟩ = some (.map (some mb)) := (hT8.box.ext hSw (fun e => e)).at 1 _ rfl
  have k0 : wS.cell? ⟨r, 0, none⟩ = some (.int .i64 x.aa) := (hR8.ext hSw (fun e => e)).at 0 _ rfl
  have k1 : wS.cell? ⟨r, 1, none⟩ = some (.int .i64 x.seq) := (hR8.ext hSw (fun e => e)).at 1 _ rfl
  clear hSw
  exact fZ
 refine tkJ 4 (v := ?vc4) ?hc4 zq ?rc4
 case hc4 =>
  intro wS hSw
  have z1 : wS.cell? ⟨p, 1, none⟩ = some (.map (some mb)) := (hT8.box.ext hSw (fun e => e)).at 1 _ rfl
  have k0 : wS.cell? ⟨r, 0, none⟩ = some (.int .i64 x.aa) := (hR8.ext hSw (fun e => e)).at 0 _ rfl
  have k1 : wS.cell? ⟨r, 1, none⟩ = some (.int .i64 x.seq) := (hR8.ext hSw (fun e => e)).at 1 _ rfl
  clear hSw
  exact fZ
 refine tkJ 5 (v := ?vc5) ?hc5 zq ?rc5
 case hc5 =>
  intro wS hSw
  have hlk := (hT8.seen.ext hSw (fun e => e)).look k3 k4
  simp only [tick] at hlk
  rw [← uh HBS] at hlk
  clear hSw
  exact fZ
 refine tkH 6 zq ?_
 refine tkH 7 zq ?_
 refine tkH 8 zq ?_
 refine tkH 9 zq ?_
 refine tkH 10 zq ?_
 refine dZ ?_
 clear zq hT8 hQ8 hR8 hB8
 obtain ⟨b1, b9, q1, q9⟩ := jZ hf
 have hs9 : x.aa.toNat < 10 := by omega
 have hsi : (x.aa.toNat : Int) = x.aa := by omega
 have i1 : (0 : Int) ≤ x.aa := by omega
 have i2 : x.aa < 10 := by omega
 have hlast : ∀ j : Int, (if j = (x.aa.toNat : Int) then (if aT ws x.aa < x.seq then x.seq else aT ws x.aa) else aT ws j) = aT (ws ++ [x]) j := by
  intro j
  rw [ke, hsi, show (if aT ws x.aa < x.seq then x.seq else aT ws x.aa) = max (aT ws x.aa) x.seq by split <;> omega]
  by_cases e : j = x.aa
  ·
   rw [if_pos e, if_pos e.symm, e]
  rw [if_neg e, if_neg (fun h => e h.symm)]
 have hlen : Hid ((ws ++ [x]).length = ws.length + 1) := by show (ws ++ [x]).length = ws.length + 1; simp
 have HLAST := yh hlast
 clear hlast
 by_cases hsn : ck ws x.aa x.seq = 0
 ·
  obtain rfl : bs = false := by rw [uh HBS]; simpa using hsn
  have hseen : ∀ s q : Int, (if s = x.aa ∧ q = x.seq then ws.length + 1 else ck ws s q) = ck (ws ++ [x]) s q := by
   intro s q
   rw [jM]
   by_cases e : s = x.aa ∧ q = x.seq
   ·
    rw [if_pos e, e.1, e.2, hsn, if_pos rfl, if_pos ⟨rfl, rfl⟩]
   rw [if_neg e]
   by_cases h0 : ck ws s q = 0
   ·
    rw [if_pos h0, if_neg (fun h => e ⟨h.1.symm, h.2.symm⟩), h0]
   rw [if_neg h0]
  have HSEEN := yh hseen
  clear HBS hseen hsn
  go_wp2_with fail
  have hT10 : dC w9.drew p mb _ ws.length (ws ++ [x]) (aT ws) (fun s q => ck ws s q) (.slice (some ⟨g5, 0, none⟩) (ws.length + 1) cp5) (rows ++ [[.int .i64 x.kind, .int .i64 x.id, .slice a2 x.vec.length d2, .int .i64 x.aa, .int .i64 x.seq]]) (bls ++ [bl]) := hT9.later (dg (Below.refl _ _) 1)
  have hQ10 : aA 0 #[.int .i64 x.kind, .int .i64 x.id, .slice a2 x.vec.length d2, .int .i64 x.aa, .int .i64 x.seq] 44 w9.drew w.heap.size := hQ9
  have hB10 : Below mb w w9.drew := hB9.drew
  refine wZz (fun w' => Ext (fun c => c = mb) w9 w') (Ext.refl _ _).ku (fun zq => ?_)
  generalize w9.drew = wE at zq hT10 hQ10 hB10 ⊢
  refine tkH 0 zq ?_
  refine tkH 1 zq ?_
  refine tkH 2 zq ?_
  refine tkJ 3 (v := ?ve3) ?he3 zq ?re3
  case he3 =>
   intro wS hSw
   have z1 : wS.cell? ⟨p, 1, none⟩ = some (.map (some mb)) := (hT9.box.ext hSw (by have := hT9.lt; have := hrp; omega)).at 1 _ rfl
   have k0 : wS.cell? ⟨r, 0, none⟩ = some (.int .i64 x.aa) := (hR9.ext hSw (by have := hT9.lt; have := hrp; omega)).at 0 _ rfl
   have k1 : wS.cell? ⟨r, 1, none⟩ = some (.int .i64 x.seq) := (hR9.ext hSw (by have := hT9.lt; have := hrp; omega)).at 1 _ rfl
   have z0 : wS.cell? ⟨p, 0, none⟩ = some (.slice (some ⟨g5, 0, none⟩) (ws.length + 1) cp5) := (hT9.box.ext hSw (by have := hT9.lt; omega)).at 0 _ rfl
   clear hSw
   exact fZ
  refine tkJ 4 (v := ?ve4) ?he4 zq ?re4
  case he4 =>
   intro wS hSw
   have z1 : wS.cell? ⟨p, 1, none⟩ = some (.map (some mb)) := (hT9.box.ext hSw (by have := hT9.lt; have := hrp; omega)).at 1 _ rfl
   have k0 : wS.cell? ⟨r, 0, none⟩ = some (.int .i64 x.aa) := (hR9.ext hSw (by have := hT9.lt; have := hrp; omega)).at 0 _ rfl
   have k1 : wS.cell? ⟨r, 1, none⟩ = some (.int .i64 x.seq) := (hR9.ext hSw (by have := hT9.lt; have := hrp; omega)).at 1 _ rfl
   have z0 : wS.cell? ⟨p, 0, none⟩ = some (.slice (some ⟨g5, 0, none⟩) (ws.length + 1) cp5) := (hT9.box.ext hSw (by have := hT9.lt; omega)).at 0 _ rfl
   clear hSw
   exact fZ
  refine tkH 5 zq ?_
  refine tkH 6 zq ?_
  refine tkH 7 zq ?_
  refine tkJ 8 (v := ?ve8) ?he8 zq ?re8
  case he8 =>
   intro wS hSw
   have z1 : wS.cell? ⟨p, 1, none⟩ = some (.map (some mb)) := (hT9.box.ext hSw (by have := hT9.lt; have := hrp; omega)).at 1 _ rfl
   have k0 : wS.cell? ⟨r, 0, none⟩ = some (.int .i64 x.aa) := (hR9.ext hSw (by have := hT9.lt; have := hrp; omega)).at 0 _ rfl
   have k1 : wS.cell? ⟨r, 1, none⟩ = some (.int .i64 x.seq) := (hR9.ext hSw (by have := hT9.lt; have := hrp; omega)).at 1 _ rfl
   have z0 : wS.cell? ⟨p, 0, none⟩ = some (.slice (some ⟨g5, 0, none⟩) (ws.length + 1) cp5) := (hT9.box.ext hSw (by have := hT9.lt; omega)).at 0 _ rfl
   clear hSw
   exact fZ
  refine tkH 9 zq ?_
  refine rdH 10 (fun K hK => ?_)
  obtain ⟨w12, hrun, hTk, hE12⟩ := hT10.seen.put (by omega) k3 k4 (m := ws.length + 1) (by omega) (aP (by omega))
  simp only [tick] at hrun
  have hrun2 : (Instr.mapUpdate 134 (.map (some mb)) (.agg #[.int .i64 x.aa, .int .i64 x.seq]) (.int .i64 ((ws.length : Int) + 1))).run Tryz.prog wE = .ok () w12 := by simpa using hrun
  clear hrun
  go_simp
  refine hK.out _ _ (zq.trans hE12) (fun zq => ?_)
  clear hK K
  try simp only [Act.put, pz, py, px]
  refine dZ ?_
  have hT12 := (hT10.marked hE12 hTk)
  have hQ12 := hQ10.ext hE12 (by omega)
  have hB12 := hB10.trans (hE12.below (by have := hT10.lt; have := hT10.box.lt; omega) (by intro c hc e; omega))
  clear zq hT9 hQ9 hR9 hB9 hT10 hQ10 hB10 hE12 hTk
  go_wp2_with fail
  have hTG : dC w12.drew p mb _ (ws.length + 1) (ws ++ [x]) (aT ws) _ (.slice (some ⟨g5, 0, none⟩) (ws.length + 1) cp5) (rows ++ [[.int .i64 x.kind, .int .i64 x.id, .slice a2 x.vec.length d2, .int .i64 x.aa, .int .i64 x.seq]]) (bls ++ [bl]) := hT12.later (dg (Below.refl _ _) 1)
  have hBG : Below mb w w12.drew := hB12.drew
  refine wZz (fun w' => Ext (fun c => c = p) w12 w') (Ext.refl _ _).ku (fun zq => ?_)
  generalize w12.drew = wG at zq hTG hBG ⊢
  refine tkH 0 zq ?_
  refine tkH 1 zq ?_
  refine tkJ 2 (v := ?vf2) ?hf2 zq ?rf2
  case hf2 =>
   intro wS hSw
   have y3 : wS.cell? ⟨w.heap.size, 3, none⟩ = some (.int .i64 x.aa) := (hQ12.ext hSw (by omega)).at 3 _ rfl
   have y4 : wS.cell? ⟨w.heap.size, 4, none⟩ = some (.int .i64 x.seq) := (hQ12.ext hSw (by omega)).at 4 _ rfl
   clear hSw
   exact fZ
  refine tkH 3 zq ?_
  refine tkH 4 zq ?_
  refine tkJ 5 (v := ?vf5) ?hf5 zq ?rf5
  case hf5 =>
   intro wS hSw
   have y3 : wS.cell? ⟨w.heap.size, 3, none⟩ = some (.int .i64 x.aa) := (hQ12.ext hSw (by omega)).at 3 _ rfl
   have y4 : wS.cell? ⟨w.heap.size, 4, none⟩ = some (.int .i64 x.seq) := (hQ12.ext hSw (by omega)).at 4 _ rfl
   clear hSw
   exact fZ
  refine tkH 6 zq ?_
  refine tkH 7 zq ?_
  refine tkH 8 zq ?_
  refine tkH 10 zq ?_
  refine tkJ 11 (v := ?vf11) ?hf11 zq ?rf11
  case hf11 =>
   intro wS hSw
   have y3 : wS.cell? ⟨w.heap.size, 3, none⟩ = some (.int .i64 x.aa) := (hQ12.ext hSw (by omega)).at 3 _ rfl
   have y4 : wS.cell? ⟨w.heap.size, 4, none⟩ = some (.int .i64 x.seq) := (hQ12.ext hSw (by omega)).at 4 _ rfl
   clear hSw
   exact fZ
  refine tkH 13 zq ?_
  refine tkH 14 zq ?_
  refine rdH 9 (fun K hK => ?_)
  have zl : wG.cell? ⟨p, 2 + x.aa.toNat, none⟩ = some (.int .i64 (aT ws x.aa)) := by
   have := hTG.box.at _ _ (eS (.slice (some ⟨g5, 0, none⟩) (ws.length + 1) cp5) mb (aT ws) x.aa.toNat hs9)
   rwa [hsi] at this
  go_simp
  refine hK.out _ _ zq (fun zq => ?_)
  clear hK K
  try simp only [Act.put, pz, py, px]
  refine tkH 12 zq ?_
  refine tkH 15 zq ?_
  refine rdH 16 (fun K hK => ?_)
  have zl : wG.cell? ⟨p, 2 + x.aa.toNat, none⟩ = some (.int .i64 (aT ws x.aa)) := by
   have := hTG.box.at _ _ (eS (.slice (some ⟨g5, 0, none⟩) (ws.length + 1) cp5) mb (aT ws) x.aa.toNat hs9)
   rwa [hsi] at this
  have f6 := hTG.box.soft (2 + x.aa.toNat)
  have l6 := hTG.box.lt
  go_simp
  refine hK.out _ _ (zq.setCell ⟨p, 2 + x.aa.toNat, none⟩ _ rfl) (fun zq => ?_)
  clear hK K
  try simp only [Act.put, pz, py, px]
  refine dZ ?_
  have hTZ := ((hTG.sm x.aa.toNat hs9 ((if aT ws x.aa < x.seq then x.seq else aT ws x.aa))).same (Nat.le_of_eq (uh hlen).symm) (uh HLAST) (uh HSEEN)).top
  have hBZ : Below mb w (wG.setCell ⟨p, 2 + x.aa.toNat, none⟩ (.int .i64 ((if aT ws x.aa < x.seq then x.seq else aT ws x.aa)))) := hBG.setCell (by simp; omega) _
  clear zq hTG hBG
  generalize wG.setCell ⟨p, 2 + x.aa.toNat, none⟩ (.int .i64 (if aT ws x.aa < x.seq then x.seq else aT ws x.aa)) = wZ at hTZ hBZ ⊢
  go_wp2_with fail
  all_goals
   refine bodyPost_end (v := .tuple #[]) (by simp [results, Tryz.results141, go_sem]) rfl ?_
   exact ⟨rfl, ⟨_, _, _, hTZ⟩, hBZ⟩
 obtain rfl : bs = true := by rw [uh HBS]; simpa using hsn
 have hseen : ∀ s q : Int, ck ws s q = ck (ws ++ [x]) s q := by
  intro s q
  rw [jM]
  split
  ·
   rename_i e
   rw [if_neg]
   ·
    exact e
   rintro ⟨rfl, rfl⟩
   exact hsn e
  rfl
 have HSEEN := yh hseen
 clear HBS hseen hsn
 go_wp2_with fail
 have hTG : dC w9.drew p mb _ ws.length (ws ++ [x]) (aT ws) (fun s q => ck ws s q) (.slice (some ⟨g5, 0, none⟩) (ws.length + 1) cp5) (rows ++ [[.int .i64 x.kind, .int .i64 x.id, .slice a2 x.vec.length d2, .int .i64 x.aa, .int .i64 x.seq]]) (bls ++ [bl]) := hT9.later (dg (Below.refl _ _) 1)
 have hBG : Below mb w w9.drew := hB9.drew
 refine wZz (fun w' => Ext (fun c => c = p) w9 w') (Ext.refl _ _).ku (fun zq => ?_)
 generalize w9.drew = wG at zq hTG hBG ⊢
 refine tkH 0 zq ?_
 refine tkH 1 zq ?_
 refine tkJ 2 (v := ?vg2) ?hg2 zq ?rg2
 case hg2 =>
  intro wS hSw
  have y3 : wS.cell? ⟨w.heap.size, 3, none⟩ = some (.int .i64 x.aa) := (hQ9.ext hSw (by omega)).at 3 _ rfl
  have y4 : wS.cell? ⟨w.heap.size, 4, none⟩ = some (.int .i64 x.seq) := (hQ9.ext hSw (by omega)).at 4 _ rfl
  clear hSw
  exact fZ
 refine tkH 3 zq ?_
 refine tkH 4 zq ?_
 refine tkJ 5 (v := ?vg5) ?hg5 zq ?rg5
 case hg5 =>
  intro wS hSw
  have y3 : wS.cell? ⟨w.heap.size, 3, none⟩ = some (.int .i64 x.aa) := (hQ9.ext hSw (by omega)).at 3 _ rfl
  have y4 : wS.cell? ⟨w.heap.size, 4, none⟩ = some (.int .i64 x.seq) := (hQ9.ext hSw (by omega)).at 4 _ rfl
  clear hSw
  exact fZ
 refine tkH 6 zq ?_
 refine tkH 7 zq ?_
 refine tkH 8 zq ?_
 refine tkH 10 zq ?_
 refine tkJ 11 (v := ?vg11) ?hg11 zq ?rg11
 case hg11 =>
  intro wS hSw
  have y3 : wS.cell? ⟨w.heap.size, 3, none⟩ = some (.int .i64 x.aa) := (hQ9.ext hSw (by omega)).at 3 _ rfl
  have y4 : wS.cell? ⟨w.heap.size, 4, none⟩ = some (.int .i64 x.seq) := (hQ9.ext hSw (by omega)).at 4 _ rfl
  clear hSw
  exact fZ
 refine tkH 13 zq ?_
 refine tkH 14 zq ?_
 refine rdH 9 (fun K hK => ?_)
 have zl : wG.cell? ⟨p, 2 + x.aa.toNat, none⟩ = some (.int .i64 (aT ws x.aa)) := by
  have := hTG.box.at _ _ (eS (.slice (some ⟨g5, 0, none⟩) (ws.length + 1) cp5) mb (aT ws) x.aa.toNat hs9)
  rwa [hsi] at this
 go_simp
 refine hK.out _ _ zq (fun zq => ?_)
 clear hK K
 try simp only [Act.put, pz, py, px]
 refine tkH 12 zq ?_
 refine tkH 15 zq ?_
 refine rdH 16 (fun K hK => ?_)
 have zl : wG.cell? ⟨p, 2 + x.aa.toNat, none⟩ = some (.int .i64 (aT ws x.aa)) := by
  have := hTG.box.at _ _ (eS (.slice (some ⟨g5, 0, none⟩) (ws.length + 1) cp5) mb (aT ws) x.aa.toNat hs9)
  rwa [hsi] at this
 have f6 := hTG.box.soft (2 + x.aa.toNat)
 have l6 := hTG.box.lt
 go_simp
 refine hK.out _ _ (zq.setCell ⟨p, 2 + x.aa.toNat, none⟩ _ rfl) (fun zq => ?_)
 clear hK K
 try simp only [Act.put, pz, py, px]
 refine dZ ?_
 have hTZ := ((hTG.sm x.aa.toNat hs9 ((if aT ws x.aa < x.seq then x.seq else aT ws x.aa))).same (n' := (ws ++ [x]).length) (by rw [uh hlen]; omega) (uh HLAST) (uh HSEEN)).top
 have hBZ : Below mb w (wG.setCell ⟨p, 2 + x.aa.toNat, none⟩ (.int .i64 ((if aT ws x.aa < x.seq then x.seq else aT ws x.aa)))) := hBG.setCell (by simp; omega) _
 clear zq hTG hBG
 generalize wG.setCell ⟨p, 2 + x.aa.toNat, none⟩ (.int .i64 (if aT ws x.aa < x.seq then x.seq else aT ws x.aa)) = wZ at hTZ hBZ ⊢
 go_wp2_with fail
 all_goals
  refine bodyPost_end (v := .tuple #[]) (by simp [results, Tryz.results141, go_sem]) rfl ?_
  exact ⟨rfl, ⟨_, _, _, hTZ⟩, hBZ⟩
def iA (x y z : Int) : Value := .agg #[.int .i64 x, .int .i64 y, .int .i64 z]
theorem cf.three {w : World} {v : Value} {zs : List Int} (h : cf w v zs) (h3 : zs.length = 3) :
  ∃ b off cap x y z, zs = [x, y, z] ∧ v = .slice (some ⟨b, off, none⟩) 3 cap ∧ b < w.heap.size ∧ w.cell? ⟨b, off, none⟩ = some (.int .i64 x) ∧ w.cell? ⟨b, off + 1, none⟩ = some (.int .i64 y) ∧ w.cell? ⟨b, off + 2, none⟩ = some (.int .i64 z) := by
 obtain ⟨ao, cap, rfl, hwf, hc⟩ := h
 match zs, h3 with
 | [x, y, z], _ =>
  obtain ⟨b, off, rfl, hc1⟩ := hc (by simp)
  have c0 := hc1 0 (by simp)
  have c1 := hc1 1 (by simp)
  have c2 := hc1 2 (by simp)
  exact ⟨b, off, cap, x, y, z, rfl, rfl, World.block_lt_of_cell? _ _ c0, c0, c1, c2⟩
theorem mc (v : Value) (zs : List Int) (w : World) (h : cf w v zs) (hf : bD zs ≠ 0) :
  Calls Tryz.prog 192 #[v] w fun e w' => e = .returned (.tuple #[iA 0 0 0, .int .i64 (bD zs)]) ∧ Below w.heap.size w w' := by
 go_enter Tryz.func192, Tryz.ntmps192
 go_wp2_with fail
 refine (k8 v zs _ (h.later (((Below.refl _ _).alloc (Nat.le_refl _) _).alloc (by simp) _))).mono ?_
 rintro e w' ⟨rfl, rfl⟩
 have hne : (bD zs != 0) = true := by rw [bne_iff_ne]; exact hf
 go_wp2_with fail
 refine bodyPost_ret (v := .tuple #[iA 0 0 0, .int .i64 (bD zs)]) (by simp [results, Tryz.results192, go_sem, iA]) rfl ⟨rfl, ?_⟩
 exact ((Below.refl _ _).alloc (Nat.le_refl _) _).alloc (by simp) _
theorem ko (b off cap : Nat) (x y z : Int) (w : World) (hbl : b < w.heap.size) (c0 : w.cell? ⟨b, off, none⟩ = some (.int .i64 x)) (c1 : w.cell? ⟨b, off + 1, none⟩ = some (.int .i64 y)) (c2 : w.cell? ⟨b, off + 2, none⟩ = some (.int .i64 z))
  (h : cf w (.slice (some ⟨b, off, none⟩) 3 cap) [x, y, z]) (hf : bD [x, y, z] = 0) :
  Calls Tryz.prog 192 #[.slice (some ⟨b, off, none⟩) 3 cap] w fun e w' => e = .returned (.tuple #[iA x y z, .int .i64 0]) ∧ Below w.heap.size w w' := by
 go_enter Tryz.func192, Tryz.ntmps192
 go_wp2_with fail
 refine (k8 _ [x, y, z] _ (h.later (((Below.refl _ _).alloc (Nat.le_refl _) _).alloc (by simp) _))).mono ?_
 rintro e w' ⟨rfl, rfl⟩
 rw [hf]
 clear h hf
 go_wp2_with fail
 refine wp_loop_rounds 4 ?_
 rw [rounds_succ]
 go_wp2
 rw [rounds_succ]
 go_wp2
 rw [rounds_succ]
 go_wp2
 rw [rounds_succ]
 go_wp2
 refine bodyPost_ret (v := .tuple #[iA x y z, .int .i64 0]) (by simp [results, Tryz.results192, go_sem, iA]) rfl ⟨rfl, ?_⟩
 exact ((Below.refl _ _).alloc (Nat.le_refl _) _).alloc (by simp) _
theorem np (v : Value) (x y z : Int) (w : World) (h : cf w v [x, y, z]) (hf : bD [x, y, z] = 0) :
  Calls Tryz.prog 192 #[v] w fun e w' => e = .returned (.tuple #[iA x y z, .int .i64 0]) ∧ Below w.heap.size w w' := by
 obtain ⟨b, off, cap, x', y', z', he, rfl, hbl, c0, c1, c2⟩ := h.three rfl
 simp only [List.cons.injEq, and_true] at he
 obtain ⟨rfl, rfl, rfl⟩ := he
 exact ko b off cap x y z w hbl c0 c1 c2 h hf
def vv (x y z : Int) : Value := .iface 249 (.agg #[.int .i64 x, .int .i64 y, .int .i64 z])
def sn : Value := .iface 244 (.agg #[])
def hU (k : Int) (zs : List Int) : Value := if k = 1 then vv (zs.getD 0 0) (zs.getD 1 0) (zs.getD 2 0) else sn
def fM (k i : Int) (zs : List Int) (s q : Int) : Value := if aC k i zs s q = 0 then hU k zs else .nilIface
def sG (i s q : Int) : Prop := (1 ≤ i ∧ i ≤ 999) ∧ (1 ≤ s ∧ s ≤ 9) ∧ 1 ≤ q ∧ q ≤ 999
theorem lV {i s q : Int} (h : sG i s q) : dL i s q = true := by
 obtain ⟨⟨a, b⟩, ⟨c, d⟩, e, f⟩ := h
 simp [dL, a, b, c, d, e, f]
theorem j9 {i s q : Int} (h : ¬ sG i s q) : dL i s q = false := by
 rw [Bool.eq_false_iff]
 intro hb
 simp only [dL, Bool.and_eq_true, decide_eq_true_eq] at hb
 exact h ⟨hb.1, hb.2.1, hb.2.2⟩
theorem lk {k i s q : Int} {zs : List Int} (hk : eu k zs.length = true) (h : ¬ sG i s q) : aC k i zs s q = 3 := by
 rw [aC, hk, if_pos rfl, j9 h]; rfl
theorem ph {i s q : Int} (h : sG i s q) : aC 2 i [] s q = 0 := by
 rw [aC, show eu 2 ([] : List Int).length = true from rfl, if_pos rfl, lV h]; rfl
theorem rX {k i s q : Int} {zs : List Int} (hk : eu k zs.length = true) (h : sG i s q) : aC k i zs s q = if k = 1 then bD zs else 0 := by
 rw [aC, hk, if_pos rfl, lV h, if_pos rfl]
def dG (w w' : World) (e : Ending) (k i : Int) (zs : List Int) (s q : Int) : Prop := e = .returned (.tuple #[fM k i zs s q, .int .i64 (aC k i zs s q)]) ∧ Below w.heap.size w w'
theorem cQ {w w' : World} {k i s q c : Int} {zs : List Int} (hc : aC k i zs s q = c) (h0 : c ≠ 0) (hb : Below w.heap.size w w') : dG w w' (.returned (.tuple #[.nilIface, .int .i64 c])) k i zs s q := by
 refine ⟨?_, hb⟩
 rw [fM, hc, if_neg h0]
theorem iV {w w' : World} {k i s q : Int} {zs : List Int} {v : Value} (hc : aC k i zs s q = 0) (hv : v = hU k zs) (hb : Below w.heap.size w w') : dG w w' (.returned (.tuple #[v, .int .i64 0])) k i zs s q := by
 refine ⟨?_, hb⟩
 rw [fM, hc, if_pos rfl, hv]
theorem jj (n : Int) (w : World) : Calls Tryz.prog 191 #[.int .i64 n] w fun e w' => e = .returned (.bool (decide (1 ≤ n) && decide (n ≤ 999))) ∧ w' = w := by
 by_cases h1 : 1 ≤ n
 ·
  have d1 : decide (1 ≤ n) = true := by simpa using h1
  rw [d1]
  cases d2 : decide (n ≤ 999) <;>
  ·
   go_enter Tryz.func191, Tryz.ntmps191
   go_wp2
   go_ret
   exact ⟨rfl, rfl⟩
 have d1 : decide (1 ≤ n) = false := by simpa using h1
 rw [d1]
 go_enter Tryz.func191, Tryz.ntmps191
 go_wp2
 go_ret
 exact ⟨rfl, rfl⟩
theorem ew (n : Int) (w : World) : Calls Tryz.prog 80 #[.int .i64 n] w fun e w' => e = .returned (.bool (decide (1 ≤ n) && decide (n ≤ 9))) ∧ w' = w := by
 by_cases h1 : 1 ≤ n
 ·
  have d1 : decide (1 ≤ n) = true := by simpa using h1
  rw [d1]
  cases d2 : decide (n ≤ 9) <;>
  ·
   go_enter Tryz.func80, Tryz.ntmps80
   go_wp2
   go_ret
   exact ⟨rfl, rfl⟩
 have d1 : decide (1 ≤ n) = false := by simpa using h1
 rw [d1]
 go_enter Tryz.func80, Tryz.ntmps80
 go_wp2
 go_ret
 exact ⟨rfl, rfl⟩
theorem mj (n : Int) (w : World) : Calls Tryz.prog 81 #[.int .i64 n] w fun e w' => e = .returned (.bool (decide (1 ≤ n) && decide (n ≤ 999))) ∧ w' = w := by
 by_cases h1 : 1 ≤ n
 ·
  have d1 : decide (1 ≤ n) = true := by simpa using h1
  rw [d1]
  cases d2 : decide (n ≤ 999) <;>
  ·
   go_enter Tryz.func81, Tryz.ntmps81
   go_wp2
   go_ret
   exact ⟨rfl, rfl⟩
 have d1 : decide (1 ≤ n) = false := by simpa using h1
 rw [d1]
 go_enter Tryz.func81, Tryz.ntmps81
 go_wp2
 go_ret
 exact ⟨rfl, rfl⟩
theorem kr (i : Int) (ao : Option Addr) (cap : Nat) (s q : Int) (zs : List Int) (w : World) (hb : ¬ sG i s q) :
  Calls Tryz.prog 140 #[.agg #[.int .i64 1, .int .i64 i, .slice ao zs.length cap, .int .i64 s, .int .i64 q]] w fun e w' => dG w w' e 1 i zs s q := by
 have HB : Hid (∀ o, Below w.heap.size w (w.alloc o)) := fun o => (Below.refl _ _).alloc (Nat.le_refl _) o
 have HF : Hid (aC 1 i zs s q = 3) := lk rfl hb
 have hbb := j9 hb
 unfold dL at hbb
 clear hb
 cases dI : (decide (1 ≤ i) && decide (i ≤ 999)) with
 | false =>
  clear hbb
  go_enter Tryz.func140, Tryz.ntmps140
  go_wp2_with fail
  refine (jj i _).mono ?_
  rintro e w1 ⟨rfl, rfl⟩
  rw [dI]
  go_wp2_with fail
  go_ret2
  exact cQ (uh HF) (by omega) (uh HB _)
 | true =>
  cases dS : (decide (1 ≤ s) && decide (s ≤ 9)) with
  | false =>
   clear hbb
   go_enter Tryz.func140, Tryz.ntmps140
   go_wp2_with fail
   refine (jj i _).mono ?_
   rintro e w1 ⟨rfl, rfl⟩
   rw [dI]
   go_wp2_with fail
   refine (ew s _).mono ?_
   rintro e w1 ⟨rfl, rfl⟩
   rw [dS]
   go_wp2_with fail
   go_ret2
   exact cQ (uh HF) (by omega) (uh HB _)
  | true =>
   have dQ : (decide (1 ≤ q) && decide (q ≤ 999)) = false := by rw [dI, dS] at hbb; simpa using hbb
   clear hbb
   go_enter Tryz.func140, Tryz.ntmps140
   go_wp2_with fail
   refine (jj i _).mono ?_
   rintro e w1 ⟨rfl, rfl⟩
   rw [dI]
   go_wp2_with fail
   refine (ew s _).mono ?_
   rintro e w1 ⟨rfl, rfl⟩
   rw [dS]
   go_wp2_with fail
   refine (mj q _).mono ?_
   rintro e w1 ⟨rfl, rfl⟩
   rw [dQ]
   go_wp2_with fail
   go_ret2
   exact cQ (uh HF) (by omega) (uh HB _)
theorem jx (i : Int) (ao : Option Addr) (cap : Nat) (s q : Int) (w : World) (hb : ¬ sG i s q) :
  Calls Tryz.prog 140 #[.agg #[.int .i64 2, .int .i64 i, .slice ao 0 cap, .int .i64 s, .int .i64 q]] w fun e w' => dG w w' e 2 i [] s q := by
 have HB : Hid (∀ o, Below w.heap.size w (w.alloc o)) := fun o => (Below.refl _ _).alloc (Nat.le_refl _) o
 have HF : Hid (aC 2 i [] s q = 3) := lk rfl hb
 have hbb := j9 hb
 unfold dL at hbb
 clear hb
 cases dI : (decide (1 ≤ i) && decide (i ≤ 999)) with
 | false =>
  clear hbb
  go_enter Tryz.func140, Tryz.ntmps140
  go_wp2_with fail
  refine (jj i _).mono ?_
  rintro e w1 ⟨rfl, rfl⟩
  rw [dI]
  go_wp2_with fail
  go_ret2
  exact cQ (uh HF) (by omega) (uh HB _)
 | true =>
  cases dS : (decide (1 ≤ s) && decide (s ≤ 9)) with
  | false =>
   clear hbb
   go_enter Tryz.func140, Tryz.ntmps140
   go_wp2_with fail
   refine (jj i _).mono ?_
   rintro e w1 ⟨rfl, rfl⟩
   rw [dI]
   go_wp2_with fail
   refine (ew s _).mono ?_
   rintro e w1 ⟨rfl, rfl⟩
   rw [dS]
   go_wp2_with fail
   go_ret2
   exact cQ (uh HF) (by omega) (uh HB _)
  | true =>
   have dQ : (decide (1 ≤ q) && decide (q ≤ 999)) = false := by rw [dI, dS] at hbb; simpa using hbb
   clear hbb
   go_enter Tryz.func140, Tryz.ntmps140
   go_wp2_with fail
   refine (jj i _).mono ?_
   rintro e w1 ⟨rfl, rfl⟩
   rw [dI]
   go_wp2_with fail
   refine (ew s _).mono ?_
   rintro e w1 ⟨rfl, rfl⟩
   rw [dS]
   go_wp2_with fail
   refine (mj q _).mono ?_
   rintro e w1 ⟨rfl, rfl⟩
   rw [dQ]
   go_wp2_with fail
   go_ret2
   exact cQ (uh HF) (by omega) (uh HB _)
theorem nI (i : Int) (ao : Option Addr) (cap : Nat) (s q : Int) (w : World) (hb : sG i s q) :
  Calls Tryz.prog 140 #[.agg #[.int .i64 2, .int .i64 i, .slice ao 0 cap, .int .i64 s, .int .i64 q]] w fun e w' => dG w w' e 2 i [] s q := by
 have HB : Hid (∀ o, Below w.heap.size w (w.alloc o)) := fun o => (Below.refl _ _).alloc (Nat.le_refl _) o
 have HF : Hid (aC 2 i [] s q = 0) := ph hb
 obtain ⟨⟨i1, i2⟩, ⟨s1, s2⟩, q1, q2⟩ := hb
 have dI : (decide (1 ≤ i) && decide (i ≤ 999)) = true := by simp [i1, i2]
 have dS : (decide (1 ≤ s) && decide (s ≤ 9)) = true := by simp [s1, s2]
 have dQ : (decide (1 ≤ q) && decide (q ≤ 999)) = true := by simp [q1, q2]
 go_enter Tryz.func140, Tryz.ntmps140
 go_wp2_with fail
 refine (jj i _).mono ?_
 rintro e w1 ⟨rfl, rfl⟩
 rw [dI]
 go_wp2_with fail
 refine (ew s _).mono ?_
 rintro e w1 ⟨rfl, rfl⟩
 rw [dS]
 go_wp2_with fail
 refine (mj q _).mono ?_
 rintro e w1 ⟨rfl, rfl⟩
 rw [dQ]
 go_wp2_with fail
 go_ret2
 exact iV (uh HF) rfl (uh HB _)
theorem mU (i : Int) (ao : Option Addr) (cap n : Nat) (s q : Int) (zs : List Int) (w : World) (hn : zs.length = n + 1) :
  Calls Tryz.prog 140 #[.agg #[.int .i64 2, .int .i64 i, .slice ao (n + 1) cap, .int .i64 s, .int .i64 q]] w fun e w' => dG w w' e 2 i zs s q := by
 have B0 : ∀ o, Below w.heap.size w (w.alloc o) := fun o => (Below.refl _ _).alloc (Nat.le_refl _) o
 have HB := yh B0
 have hF : aC 2 i zs s q = 1 := by
  have : eu 2 zs.length = false := by simp [eu]; omega
  rw [aC, this]; rfl
 have HF := yh hF
 clear B0 hF hn
 go_enter Tryz.func140, Tryz.ntmps140
 go_wp2
 go_ret2
 exact cQ (uh HF) (by omega) (uh HB _)
theorem nj (k i : Int) (ao : Option Addr) (cap : Nat) (s q : Int) (zs : List Int) (w : World) (h1 : k ≠ 1) (h2 : k ≠ 2) :
  Calls Tryz.prog 140 #[.agg #[.int .i64 k, .int .i64 i, .slice ao zs.length cap, .int .i64 s, .int .i64 q]] w fun e w' => dG w w' e k i zs s q := by
 have B0 : ∀ o, Below w.heap.size w (w.alloc o) := fun o => (Below.refl _ _).alloc (Nat.le_refl _) o
 have HB := yh B0
 have hF : aC k i zs s q = 1 := by
  have : eu k zs.length = false := by simp [eu]; omega
  rw [aC, this]; rfl
 have HF := yh hF
 clear B0 hF
 go_enter Tryz.func140, Tryz.ntmps140
 go_wp2
 go_ret2
 exact cQ (uh HF) (by omega) (uh HB _)
theorem mw (v : Value) (zs : List Int) (w : World) (h : cf w v zs) :
  Calls Tryz.prog 192 #[v] w fun e w' => e = .returned (.tuple #[if bD zs = 0 then iA (zs.getD 0 0) (zs.getD 1 0) (zs.getD 2 0) else iA 0 0 0, .int .i64 (bD zs)]) ∧ Below w.heap.size w w' := by
 by_cases hf : bD zs = 0
 ·
  obtain ⟨hl, -⟩ := cy hf
  match zs, hl with
  | [x, y, z], _ =>
   rw [if_pos hf]
   refine (np v x y z w h hf).mono ?_
   rintro e w' ⟨rfl, hb⟩
   exact ⟨by rw [hf]; rfl, hb⟩
 rw [if_neg hf]
 exact mc v zs w h hf
theorem o8 (i : Int) (ao : Option Addr) (cap : Nat) (s q : Int) (zs : List Int) (w : World) (h : cf w (.slice ao zs.length cap) zs) (hb : sG i s q) :
  Calls Tryz.prog 140 #[.agg #[.int .i64 1, .int .i64 i, .slice ao zs.length cap, .int .i64 s, .int .i64 q]] w fun e w' => dG w w' e 1 i zs s q := by
 have B0 : Below w.heap.size w (w.alloc (.cells #[.int .i64 1, .int .i64 i, .slice ao zs.length cap, .int .i64 s, .int .i64 q] 44)) := (Below.refl _ _).alloc (Nat.le_refl _) _
 have HB := yh B0
 have H := yh (h.later B0)
 clear h B0
 have HF : Hid (aC 1 i zs s q = bD zs) := rX rfl hb
 obtain ⟨⟨i1, i2⟩, ⟨s1, s2⟩, q1, q2⟩ := hb
 have dI : (decide (1 ≤ i) && decide (i ≤ 999)) = true := by simp [i1, i2]
 have dS : (decide (1 ≤ s) && decide (s ≤ 9)) = true := by simp [s1, s2]
 have dQ : (decide (1 ≤ q) && decide (q ≤ 999)) = true := by simp [q1, q2]
 go_enter Tryz.func140, Tryz.ntmps140
 go_wp2_with fail
 refine (jj i _).mono ?_
 rintro e w1 ⟨rfl, rfl⟩
 rw [dI]
 go_wp2_with fail
 refine (ew s _).mono ?_
 rintro e w1 ⟨rfl, rfl⟩
 rw [dS]
 go_wp2_with fail
 refine (mj q _).mono ?_
 rintro e w1 ⟨rfl, rfl⟩
 rw [dQ]
 go_wp2_with fail
 refine (mw _ zs _ (uh H)).mono ?_
 rintro e w1 ⟨rfl, hb1⟩
 have HB1 := yh ((uh HB).trans (hb1.mono (uh HB).size))
 have hz : w.heap.size ≤ w1.heap.size := (uh HB1).size
 clear HB hb1 H
 generalize hV : bD zs = F at *
 by_cases hf : F = 0
 ·
  subst hf
  rw [if_pos rfl]
  simp only [iA]
  go_wp2_with fail
  go_ret2
  refine iV (uh HF) ?_ ?_
  ·
   rw [hU, if_pos rfl]; rfl
  exact (uh HB1).alloc hz _
 rw [if_neg hf]
 have hd : (F != 0) = true := by rw [bne_iff_ne]; exact hf
 have HN := yh hf
 clear hf
 simp only [iA]
 go_wp2_with fail
 go_ret2
 exact cQ (uh HF) (uh HN) ((uh HB1).alloc hz _)
theorem j0 (k i : Int) (v : Value) (s q : Int) (zs : List Int) (w : World) (h : cf w v zs) :
  Calls Tryz.prog 140 #[.agg #[.int .i64 k, .int .i64 i, v, .int .i64 s, .int .i64 q]] w fun e w' => dG w w' e k i zs s q := by
 have h' := h
 obtain ⟨ao, cap, rfl, -⟩ := h'
 by_cases h1 : k = 1
 ·
  subst h1
  by_cases hb : sG i s q
  ·
   exact o8 i ao cap s q zs w h hb
  exact kr i ao cap s q zs w hb
 by_cases h2 : k = 2
 ·
  subst h2
  rcases Nat.eq_zero_or_pos zs.length with h0 | h0
  ·
   obtain rfl : zs = [] := List.eq_nil_of_length_eq_zero h0
   by_cases hb : sG i s q
   ·
    exact nI i ao cap s q w hb
   exact jx i ao cap s q w hb
  obtain ⟨n, hn⟩ : ∃ n, zs.length = n + 1 := ⟨zs.length - 1, by omega⟩
  rw [hn]
  exact mU i ao cap n s q zs w hn
 exact nj k i ao cap s q zs w h1 h2
theorem ub (x y z : Int) (w : World) :
  Calls Tryz.prog 193 #[iA x y z] w fun e w' => e = .returned (.slice (some ⟨w.heap.size + 1, 0, none⟩) 3 3) ∧
   (w.alloc (.cells #[.int .i64 x, .int .i64 y, .int .i64 z] 245)).alloc (.cells #[.int .i64 x, .int .i64 y, .int .i64 z] 2) = w' := by
 have hmk : ∀ w : World, (Instr.makeSlice 22 (.int .i64 3) (.int .i64 3)).run Tryz.prog w = .ok (.slice (some ⟨w.heap.size, 0, none⟩) 3 3) (w.alloc (.cells #[.int .i64 0, .int .i64 0, .int .i64 0] 2)) := fun _ => by kernel_rfl
 have i0 : ∀ w : World, (Instr.index 245 (.agg #[.int .i64 x, .int .i64 y, .int .i64 z]) (.int .i64 0)).run Tryz.prog w = .ok (.int .i64 x) w := fun _ => by kernel_rfl
 have i1 : ∀ w : World, (Instr.index 245 (.agg #[.int .i64 x, .int .i64 y, .int .i64 z]) (.int .i64 1)).run Tryz.prog w = .ok (.int .i64 y) w := fun _ => by kernel_rfl
 have i2 : ∀ w : World, (Instr.index 245 (.agg #[.int .i64 x, .int .i64 y, .int .i64 z]) (.int .i64 2)).run Tryz.prog w = .ok (.int .i64 z) w := fun _ => by kernel_rfl
 simp only [iA]
 go_enter Tryz.func193, Tryz.ntmps193
 go_wp2
 refine wp_loop_rounds 4 ?_
 rw [rounds_succ]
 go_wp2
 rw [rounds_succ]
 go_wp2
 rw [rounds_succ]
 go_wp2
 rw [rounds_succ]
 go_wp2
 go_ret
 exact ⟨rfl, rfl⟩
theorem sP (v : Value) (w : World) : (Instr.typeAssert (.iface 244 v) 194 249 true).run Tryz.prog w = .ok (.tuple #[.agg #[.int .i64 0, .int .i64 0, .int .i64 0], .bool false]) w := by kernel_rfl
theorem sc (v : Value) (w : World) : (Instr.typeAssert (.iface 244 v) 194 244 true).run Tryz.prog w = .ok (.tuple #[v, .bool true]) w := by kernel_rfl
theorem ma (i s q : Int) (w : World) :
  Calls Tryz.prog 142 #[sn, .int .i64 i, .int .i64 s, .int .i64 q] w fun e w' => e = .returned (.agg #[.int .i64 2, .int .i64 i, .slice none 0 0, .int .i64 s, .int .i64 q]) ∧ Below w.heap.size w w' := by
 have a1 := sP
 have a2 := sc
 have HB : Hid (∀ o o' o'', Below w.heap.size w (((w.alloc o).alloc o').alloc o'')) := fun o o' o'' => (((Below.refl _ _).alloc (Nat.le_refl _) _).alloc (by simp) _).alloc (by simp; omega) _
 simp only [sn] at *
 go_enter Tryz.func142, Tryz.ntmps142
 go_wp2_with fail
 refine bodyPost_ret (v := .agg #[.int .i64 2, .int .i64 i, .slice none 0 0, .int .i64 s, .int .i64 q]) (by simp [results, Tryz.results142, go_sem]) rfl ?_
 exact ⟨rfl, uh HB _ _ _⟩
theorem rB (v : Value) (w : World) : (Instr.typeAssert (.iface 249 v) 194 249 true).run Tryz.prog w = .ok (.tuple #[v, .bool true]) w := by kernel_rfl
theorem tC (x y z : Int) (w : World) :
  Calls Tryz.prog 193 #[.agg #[.int .i64 x, .int .i64 y, .int .i64 z]] w fun e w' => ∃ a c, e = .returned (.slice a 3 c) ∧ w'.ownsRow w.heap.size 2 1 (.slice a 3 c) 3 [.int .i64 x, .int .i64 y, .int .i64 z] ∧ Below w.heap.size w w' := by
 refine (ub x y z w).mono ?_
 rintro e w' ⟨rfl, rfl⟩
 exact ⟨_, _, rfl, tf (W := w.alloc (.cells #[.int .i64 x, .int .i64 y, .int .i64 z] 245)) (base := w.heap.size) (T := 2) (by simp) (by simp), ((Below.refl _ _).alloc (Nat.le_refl _) _).alloc (by simp) _⟩
theorem vu {w w1 : World} {sx : Nat} {u : Value} {xs : List Value} {B : Nat} {vs : List Value} (hsx : w.heap.size < sx) (hB : sx < B) (O : w1.ownsRow B 2 1 u 3 xs) (hb : Below w.heap.size w w1) :
  (aG (w1.setCell ⟨sx, 2, none⟩ u) w.heap.size 0 vs).ownsRow B 2 1 u 3 xs ∧ Below w.heap.size w (aG (w1.setCell ⟨sx, 2, none⟩ u) w.heap.size 0 vs) := by
 have h1 := ik (a := ⟨sx, 2, none⟩) O (by simpa using hB) u
 have h2 : Below w.heap.size w (w1.setCell ⟨sx, 2, none⟩ u) := hb.setCell (by simp; omega) _
 refine ⟨?_, aB h2 _ _ _ (Nat.le_refl _)⟩
 have : ∀ (l : List Value) (i : Nat) (W : World), W.ownsRow B 2 1 u 3 xs → (aG W w.heap.size i l).ownsRow B 2 1 u 3 xs := by
  intro l
  induction l with
  | nil => intro i W h; exact h
  | cons v l ih => intro i W h; exact ih (i + 1) _ (ik (a := ⟨w.heap.size, i, none⟩) h (by simp; omega) v)
 exact this vs 0 _ h1
theorem nR (x y z i s q : Int) (w : World) :
  Calls Tryz.prog 142 #[vv x y z, .int .i64 i, .int .i64 s, .int .i64 q] w fun e w' => ∃ a c, e = .returned (.agg #[.int .i64 1, .int .i64 i, .slice a 3 c, .int .i64 s, .int .i64 q]) ∧ w'.ownsRow w.heap.size 2 1 (.slice a 3 c) 3 [.int .i64 x, .int .i64 y, .int .i64 z] ∧ Below w.heap.size w w' := by
 have a1 := rB
 have L := yh (fun W => tC x y z W)
 simp only [vv] at *
 go_enter Tryz.func142, Tryz.ntmps142
 go_wp2_with fail
 obtain ⟨W, hW⟩ : ∃ W, W = ((w.alloc (.cells #[.int .i64 0, .int .i64 0, .slice none 0 0, .int .i64 0, .int .i64 0] 44)).alloc (.cells #[.int .i64 1, .int .i64 i, .slice none 0 0, .int .i64 s, .int .i64 q] 44)).alloc (.cells #[.int .i64 x, .int .i64 y, .int .i64 z] 249) := ⟨_, rfl⟩
 have n1 : Below w.heap.size w (w.alloc (.cells #[.int .i64 0, .int .i64 0, .slice none 0 0, .int .i64 0, .int .i64 0] 44)) := (Below.refl _ _).alloc (Nat.le_refl _) _
 have bR : aA 0 #[.int .i64 0, .int .i64 0, .slice none 0 0, .int .i64 0, .int .i64 0] 44 W w.heap.size := by rw [hW]; exact ((aD (Nat.zero_le _)).grow _).grow _
 have bX : aA 0 #[.int .i64 1, .int .i64 i, .slice none 0 0, .int .i64 s, .int .i64 q] 44 W (w.heap.size + 1) := by rw [hW]; exact (bm (by omega) (by simp)).grow _
 have HB : Hid (Below w.heap.size w W) := by rw [hW]; exact (n1.alloc (by simp) _).alloc (by simp; omega) _
 rw [← hW]
 clear hW n1
 refine (uh L _).mono ?_
 rintro e w1 ⟨a, c, rfl, O, hb⟩
 have hsx : w.heap.size < w.heap.size + 1 := by omega
 generalize w.heap.size + 1 = sx at *
 have hX := bX.lt
 replace bR := bR.ai hb
 replace bX := bX.ai hb
 replace HB := bZ HB hb
 have x0 := bX.at 0 _ rfl
 have x1 := bX.at 1 _ rfl
 have x2 := bX.at 2 _ rfl
 have x3 := bX.at 3 _ rfl
 have x4 := bX.at 4 _ rfl
 have xf := bX.soft
 have xl := bX.lt
 have r0 := bR.at 0 _ rfl
 have r1 := bR.at 1 _ rfl
 have r2 := bR.at 2 _ rfl
 have r3 := bR.at 3 _ rfl
 have r4 := bR.at 4 _ rfl
 have rf := bR.soft
 have rl := bR.lt
 have HO := yh O
 clear bR bX hb O L
 simp only [ga, gb, gc] at x0 x1 x2 x3 x4 r0 r1 r2 r3 r4
 go_wp2_with fail
 refine bodyPost_ret (v := .agg #[.int .i64 1, .int .i64 i, .slice a 3 c, .int .i64 s, .int .i64 q]) (by simp [results, Tryz.results142, go_sem, r0, r1, r2, r3, r4]) rfl ?_
 obtain ⟨s1, s2⟩ := vu (vs := [.int .i64 1, .int .i64 i, .slice a 3 c, .int .i64 s, .int .i64 q]) hsx hX (uh HO) (uh HB)
 exact ⟨a, c, rfl, kb (by omega) s1, s2⟩
theorem na (x : aj) (w : World) (hf : wF x = 0) :
  Calls Tryz.prog 142 #[hU x.kind x.vec, .int .i64 x.id, .int .i64 x.aa, .int .i64 x.seq] w fun e w' => ∃ cs, e = .returned (.agg cs.toArray) ∧ ab.ag.aN w' cs x w.heap.size w'.heap.size ∧ Below w.heap.size w w' := by
 obtain ⟨kd, id, vec, ss, sq⟩ := x
 obtain ⟨hi, hs, hq, hk⟩ := bW hf
 simp only at hi hs hq hk
 have w1 : (Lit.int .i64 id).wf = true := aP (by omega)
 have w3 : (Lit.int .i64 ss).wf = true := aP (by omega)
 have w4 : (Lit.int .i64 sq).wf = true := aP (by omega)
 rcases hk with ⟨rfl, hv⟩ | ⟨rfl, hv⟩
 ·
  obtain ⟨hl, hb⟩ := cy hv
  match vec, hl with
  | [p, q, r], _ =>
   refine (nR p q r id ss sq w).mono ?_
   rintro e w' ⟨a, c, rfl, hO, hb2⟩
   have hO2 := ab.eM (zs := [p, q, r]) (fun z hz => aP (by have h0 := hb 0 (by decide); have h1 := hb 1 (by decide); have h2 := hb 2 (by decide); simp at h0 h1 h2 hz; omega)) (by simp) hO
   obtain ⟨bl, O, hr⟩ := hO2
   exact ⟨_, rfl, ⟨bl, dD (x := ⟨1, id, [p, q, r], ss, sq⟩) O (show (Lit.int .i64 1).wf = true by decide) w1 w3 w4 O.2.1, hr⟩, hb2⟩
 subst hv
 refine (ma id ss sq w).mono ?_
 rintro e w' ⟨rfl, hb2⟩
 exact ⟨_, rfl, ⟨[], dD (x := ⟨2, id, [], ss, sq⟩) (c2 := [.slice none 0 0]) ⟨⟨none, 0, rfl, by simp, Or.inl ⟨rfl, rfl⟩⟩, by simp, by simp⟩ (show (Lit.int .i64 2).wf = true by decide) w1 w3 w4 (by simp), by simp⟩, hb2⟩
end Go.Proofs.YtomphbenbnnfgaaGreatDoor

namespace Go.Proofs.YtomphbenbnnfgaaGreatDoor
open Go.RowKit Go.ChangeShapes Go.WideShapes
def fV {α : Type} (A : ab α) (t : TypeId) : Prop :=
 ∀ {H : Type} (enc : TypeId × Value → H) (W : World) (base : Nat) (spare : Nat → Bool) (held : Bool) (fuel : Nat) (cs : List Value) (x : DataW H × List MemPlace), DataW.trod enc Tryz.prog W base spare held fuel t cs = some x → ∃ y, A.Reads W cs y
theorem a0 {α β : Type} {A : ab α} {B : ab β} {W : World} {c1 c2 : List Value} {x : α} {y : β} (h : A.Reads W c1 x) (k : B.Reads W c2 y) : (ab.pair A B).Reads W (c1 ++ c2) (x, y) := by
 obtain ⟨b1, h⟩ := h
 obtain ⟨b2, k⟩ := k
 exact ⟨b1 ++ b2, c1, c2, b1, b2, rfl, rfl, h, k⟩
theorem bt {t : TypeId} (ht : Tryz.prog.underlying t = some (.int .i64)) : fV ab.int t := by
 intro H enc W base spare held fuel cs x h
 obtain ⟨n, rfl, -, hw⟩ := DataW.trod_int ht h
 exact ⟨n, [], rfl, hw, rfl⟩
theorem pb {t : TypeId} (ht : Tryz.prog.underlying t = some .bool) : fV ab.bool t := by
 intro H enc W base spare held fuel cs x h
 obtain ⟨b, rfl, -⟩ := DataW.trod_bool ht h
 exact ⟨b, [], rfl, rfl⟩
theorem er {α : Type} {A : ab α} {t e : TypeId} (ht : Tryz.prog.underlying t = some (.slice e)) (hn : Tryz.prog.cellsOf e = A.n) (h0 : 0 < A.n) (h : fV A e) : fV (ab.sl A) t := by
 intro H enc W base spare held fuel cs x hx
 rcases Go.Deep.open_slice ht hx with ⟨rfl, -⟩ | ⟨a, len, cap, m, n, D, Pl, rfl, hb, hl, hm, hmm, -, hel⟩
 ·
  exact ⟨[], [], none, 0, rfl, ⟨Nat.le_refl _, by simp⟩, Or.inl ⟨rfl, rfl⟩⟩
 have hlm : len ≤ m := by rw [hmm]; split <;> omega
 rw [hn] at hel
 have each : ∀ i, i < len → ∃ q : List Value × α, (∀ j, j < A.n → W.cell? (a.add (i * A.n + j)) = q.1[j]?) ∧ q.1.length = A.n ∧ A.Reads W q.1 q.2 := by
  intro i hi
  obtain ⟨cs', h1, h2⟩ := hel i (by omega)
  obtain ⟨-, hlen, hc⟩ := World.cells?_some h1
  obtain ⟨y, hy⟩ := h enc W base spare held n cs' _ h2
  refine ⟨(cs', y), fun j hj => ?_, hlen, hy⟩
  have := hc j hj
  rw [Addr.add_add] at this
  exact this
 by_cases hp : 0 < len
 ·
  obtain ⟨b, off, spot⟩ := a
  obtain ⟨q0, c0, l0, -⟩ := each 0 hp
  have hc0 := c0 0 h0
  have hs0 : ∃ v, W.cell? ((⟨b, off, spot⟩ : Addr).add (0 * A.n + 0)) = some v := ⟨_, hc0.trans (List.getElem?_eq_getElem (by omega))⟩
  obtain ⟨v0, hv0⟩ := hs0
  have hspot : spot = none := by simpa [Addr.add] using World.cell?_spot hv0
  subst hspot
  have hbl : b < W.heap.size := by
   have := World.block_lt_of_cell? _ _ hv0
   simpa [Addr.add] using this
  have pick : ∃ f : (i : Nat) → i < len → List Value × α, ∀ i (hi : i < len), (∀ j, j < A.n → W.cell? ((⟨b, off, none⟩ : Addr).add (i * A.n + j)) = (f i hi).1[j]?) ∧ (f i hi).1.length = A.n ∧ A.Reads W (f i hi).1 (f i hi).2 :=
   ⟨fun i hi => Classical.choose (each i hi), fun i hi => Classical.choose_spec (each i hi)⟩
  obtain ⟨f, hf⟩ := pick
  have pick2 : ∃ g : (i : Nat) → i < len → List Nat, ∀ i (hi : i < len), A.bg W (f i hi).1 (f i hi).2 (g i hi) :=
   ⟨fun i hi => Classical.choose (hf i hi).2.2, fun i hi => Classical.choose_spec (hf i hi).2.2⟩
  obtain ⟨g, hg⟩ := pick2
  refine ⟨(List.finRange len).map (fun i => (f i.1 i.2).2), b :: ((List.finRange len).map (fun i => g i.1 i.2)).flatten, some ⟨b, off, none⟩, cap, by simp, ⟨by simpa using hl, by simp; unfold maxLen at hm; omega⟩, Or.inr ⟨b, off, (List.finRange len).map (fun i => (f i.1 i.2).1), (List.finRange len).map (fun i => g i.1 i.2), rfl, hbl, rfl, by simp, by simp, fun j h1 h2 h3 => ?_⟩⟩
  have hj : j < len := by simpa using h1
  refine ⟨fun k hk => ?_, ?_⟩
  ·
   have := (hf j hj).1 k hk
   rw [Addr.add_lit] at this
   simpa [Nat.add_assoc] using this
  simpa using hg j hj
 obtain rfl : len = 0 := by omega
 exact ⟨[], [], some a, cap, rfl, ⟨hl, by simp⟩, Or.inl ⟨rfl, rfl⟩⟩
theorem jf {α : Type} {A : ab α} {t : TypeId} (O : fV A t) {H : Type} {enc : TypeId × Value → H} {W : World} {base : Nat} {spare : Nat → Bool} {held : Bool} {cs : Array Value} {d : DataW H} {p : List MemPlace}
  (h : DataW.Trod enc Tryz.prog W base spare held t (.agg cs) d p) : ∃ y, A.Reads W cs.toList y := by
 obtain ⟨fuel, hf⟩ := h
 exact O enc W base spare held fuel _ _ (by simpa [Value.cells] using hf)
end Go.Proofs.YtomphbenbnnfgaaGreatDoor

namespace Go.Proofs.YtomphbenbnnfgaaGreatDoor
open Go.RowKit
def rS (w w' : World) (e : Ending) (ws : List aj) : Prop := ∃ r, e = .returned (.tuple #[r, .int .i64 (aR ws)]) ∧ (aR ws = 0 → r = .pointer (some ⟨w.heap.size + 1, 0, none⟩) ∧ ∃ v rows bls, Told w' (w.heap.size + 1) w.heap.size w'.heap.size ws v rows bls) ∧ (aR ws ≠ 0 → r = .pointer none) ∧ Below w.heap.size w w'
theorem ky (w : World) : Told ((w.alloc (.map #[] 0)).alloc (.cells #[.slice none 0 0, .map (some w.heap.size), .int .i64 0, .int .i64 0, .int .i64 0, .int .i64 0, .int .i64 0, .int .i64 0, .int .i64 0, .int .i64 0, .int .i64 0, .int .i64 0] 137)) (w.heap.size + 1) w.heap.size ((w.alloc (.map #[] 0)).alloc (.cells #[.slice none 0 0, .map (some w.heap.size), .int .i64 0, .int .i64 0, .int .i64 0, .int .i64 0, .int .i64 0, .int .i64 0, .int .i64 0, .int .i64 0, .int .i64 0, .int .i64 0] 137)).heap.size [] (.slice none 0 0) [] [] := si w
theorem qT (b off cap : Nat) (ws : List aj) (w : World) (h : (ab.sl ab.ag).Reads w [.slice (some ⟨b, off, none⟩) ws.length cap] ws) (hbl : b < w.heap.size) (hn : ws.length ≤ 200) :
  Calls Tryz.prog 79 #[.slice (some ⟨b, off, none⟩) ws.length cap] w fun e w' => rS w w' e ws := by
 have HW : Hid (aR ws = cx ws) := by show aR ws = cx ws; rw [aR, if_neg (by omega)]
 have H := yh h
 clear h
 have HT0 := yh (ky w)
 have HB0 := yh (((Below.refl w.heap.size w).alloc (Nat.le_refl _) (.map #[] 0)).alloc (by simp) (.cells #[.slice none 0 0, .map (some w.heap.size), .int .i64 0, .int .i64 0, .int .i64 0, .int .i64 0, .int .i64 0, .int .i64 0, .int .i64 0, .int .i64 0, .int .i64 0, .int .i64 0] 137))
 have hmk := @run_makeMap Tryz.prog
 go_enter Tryz.func79, Tryz.ntmps79
 go_wp2_with fail
 clear hmk
 generalize (w.alloc (.map #[] 0)).alloc (.cells #[.slice none 0 0, .map (some w.heap.size), .int .i64 0, .int .i64 0, .int .i64 0, .int .i64 0, .int .i64 0, .int .i64 0, .int .i64 0, .int .i64 0, .int .i64 0, .int .i64 0] 137) = W1 at *
 go_loopw [17] (fun i wr => ∃ k : Nat, k ≤ ws.length ∧ i = .int .i64 k ∧ (∀ j (hj : j < ws.length), j < k → wF ws[j] = 0) ∧ (∃ v rows bls, Told wr (w.heap.size + 1) w.heap.size wr.heap.size (ws.take k) v rows bls) ∧ Below w.heap.size w wr) (fun i _ => ws.length - (intOf i).toNat)
 case atStart => exact ⟨0, Nat.zero_le _, rfl, fun j _ hj => by omega, ⟨_, _, _, uh HT0⟩, uh HB0⟩
 case round =>
  obtain ⟨k, hk, rfl, hz, ⟨v, rows, bls, hT⟩, hB⟩ := hrel
  clear HT0 HB0
  by_cases hlt : k < ws.length
  ·
   obtain ⟨row, hc, hr⟩ := ab.bE (uh H) hlt
   replace hr := hr.later hB
   obtain ⟨a2, d2, rfl, R2⟩ := aM hr
   have c0 : wr.cell? ⟨b, off + k * 5, none⟩ = some (.int .i64 (ws[k]).kind) := (hB.cell (p := ⟨b, off + k * 5, none⟩) hbl).trans (hc 0 (by decide))
   have c1 : wr.cell? ⟨b, off + k * 5 + 1, none⟩ = some (.int .i64 (ws[k]).id) := (hB.cell (p := ⟨b, off + k * 5 + 1, none⟩) hbl).trans (hc 1 (by decide))
   have c2 : wr.cell? ⟨b, off + k * 5 + 2, none⟩ = some (.slice a2 (ws[k]).vec.length d2) := (hB.cell (p := ⟨b, off + k * 5 + 2, none⟩) hbl).trans (hc 2 (by decide))
   have c3 : wr.cell? ⟨b, off + k * 5 + 3, none⟩ = some (.int .i64 (ws[k]).aa) := (hB.cell (p := ⟨b, off + k * 5 + 3, none⟩) hbl).trans (hc 3 (by decide))
   have c4 : wr.cell? ⟨b, off + k * 5 + 4, none⟩ = some (.int .i64 (ws[k]).seq) := (hB.cell (p := ⟨b, off + k * 5 + 4, none⟩) hbl).trans (hc 4 (by decide))
   have HZ := yh hz
   have HST : Hid (ws.take (k + 1) = ws.take k ++ [ws[k]]) := List.take_succ_eq_append_getElem hlt
   have HAT : Hid (wF ws[k] ≠ 0 → aR ws = wF ws[k]) := fun hn => (uh HW).trans (iB ws k hlt hz hn)
   have HZ2 : Hid (wF ws[k] = 0 → ∀ j (hj : j < ws.length), j < k + 1 → wF ws[j] = 0) := by
    intro h0 j hj hjk
    by_cases hjk2 : j < k
    ·
     exact uh HZ j hj hjk2
    obtain rfl : j = k := by omega
    exact h0
   have HLK : Hid ((ws.take k).length = k) := by show (ws.take k).length = k; rw [List.length_take]; omega
   clear hc hr hz HZ
   generalize hx : ws[k] = x at *
   clear hx
   have hbr : b < wr.heap.size := Nat.lt_of_lt_of_le hbl hB.size
   have nb : Below wr.heap.size wr (wr.alloc (.cells #[.int .i64 x.kind, .int .i64 x.id, .slice a2 x.vec.length d2, .int .i64 x.aa, .int .i64 x.seq] 44)) := (Below.refl _ _).alloc (Nat.le_refl _) _
   have bI : aA wr.heap.size #[.int .i64 x.kind, .int .i64 x.id, .slice a2 x.vec.length d2, .int .i64 x.aa, .int .i64 x.seq] 44 (wr.alloc (.cells #[.int .i64 x.kind, .int .i64 x.id, .slice a2 x.vec.length d2, .int .i64 x.aa, .int .i64 x.seq] 44)) wr.heap.size := aD (Nat.le_refl _)
   have L := j0 x.kind x.id (.slice a2 x.vec.length d2) x.aa x.seq x.vec _ ((ab.bc R2).later nb)
   simp only [dG] at L
   rw [show aC x.kind x.id x.vec x.aa x.seq = wF x from rfl] at L
   have HL := yh L
   have HT := yh (hT.later nb)
   have HB := yh (hB.trans (nb.mono hB.size))
   have HBI := yh bI
   have HZW : Hid (w.heap.size ≤ wr.heap.size) := hB.size
   clear R2 hT hB nb bI L
   go_wp2_with fail
   clear c0 c1 c2 c3 c4
   refine (uh HL).mono ?_
   generalize hW0 : wr.alloc (.cells #[.int .i64 x.kind, .int .i64 x.id, .slice a2 x.vec.length d2, .int .i64 x.aa, .int .i64 x.seq] 44) = W0 at *
   clear hW0
   rintro e w2 ⟨rfl, hb⟩
   replace HT := yh ((uh HT).later hb)
   replace HBI := yh ((uh HBI).ai hb)
   replace HB := bZ HB hb
   clear hb HL
   by_cases hf : wF x = 0
   ·
    rw [hf, show fM x.kind x.id x.vec x.aa x.seq = hU x.kind x.vec from if_pos hf]
    have hb1 : w2.cell? ⟨wr.heap.size, 1, none⟩ = some (.int .i64 x.id) := (uh HBI).at 1 _ rfl
    have hb3 : w2.cell? ⟨wr.heap.size, 3, none⟩ = some (.int .i64 x.aa) := (uh HBI).at 3 _ rfl
    have hb4 : w2.cell? ⟨wr.heap.size, 4, none⟩ = some (.int .i64 x.seq) := (uh HBI).at 4 _ rfl
    have hbl1 : wr.heap.size < w2.heap.size := (uh HBI).lt
    have HZ3 := yh (uh HZ2 hf)
    have HL := yh (na x w2 hf)
    have HF := yh hf
    generalize hdv : hU x.kind x.vec = dv at *
    clear hf hdv HZ2 HAT HBI
    go_wp2_with fail
    refine (uh HL).mono ?_
    rintro e w3 ⟨cs, rfl, ⟨bl, hO, hr⟩, hb3⟩
    have hT3 := (uh HT).later hb3
    replace HB := bZ HB hb3
    have HC := yh (uG (hT3.raise (Nat.le_trans (Nat.le_of_lt hbl1) (Nat.le_refl w2.heap.size))) hO.1 (fun c hc => ⟨(hr c hc).1, hO.2.2 c hc⟩) hO.2.1 hb3.size (uh HF) (by rw [uh HLK]; omega))
    rw [← uh HST] at HC
    clear hO hr hb3 HL HT hT3 HF hb1 hb4 hbl1
    go_wp2_with fail
    refine (uh HC).mono ?_
    rintro e w4 ⟨rfl, ⟨v4, rows4, bls4, hT4⟩, hb4⟩
    have HT4 := yh hT4
    have HB4 := yh ((uh HB).trans hb4)
    clear hT4 hb4 HC HB
    go_wp2_with fail
    go_roundw
    case rel => exact ⟨k + 1, by omega, by go_num, uh HZ3, ⟨_, _, _, uh HT4⟩, uh HB4⟩
    case measure => simp [intOf]; omega
   have hd : (wF x != 0) = true := by simpa using hf
   have HG := yh (uh HAT hf)
   have HF := yh hf
   generalize hdr : fM x.kind x.id x.vec x.aa x.seq = dr at *
   clear hf hdr HZ2 HAT HST HT HBI
   go_wp2_with fail
   refine bodyPost_ret (v := .tuple #[.pointer none, .int .i64 (wF x)]) (by simp [results, Tryz.results79, go_sem]) rfl ?_
   exact ⟨.pointer none, by rw [uh HG], fun e => absurd ((uh HG).symm.trans e) (uh HF), fun _ => rfl, uh HB⟩
  obtain rfl : k = ws.length := by omega
  have HG : Hid (aR ws = 0) := (uh HW).trans (eX ws fun j hj => hz j hj hj)
  rw [List.take_length] at hT
  have HT := yh hT
  have HB := yh hB
  clear hT hB hz H HW
  go_wp2_with fail
  refine bodyPost_ret (v := .tuple #[.pointer (some ⟨w.heap.size + 1, 0, none⟩), .int .i64 0]) (by simp [results, Tryz.results79, go_sem]) rfl ?_
  exact ⟨.pointer (some ⟨w.heap.size + 1, 0, none⟩), by rw [uh HG], fun _ => ⟨rfl, _, _, _, uh HT⟩, fun e => absurd (uh HG) e, uh HB⟩
theorem mG (v : Value) (ws : List aj) (w : World) (h : (ab.sl ab.ag).Reads w [v] ws) :
  Calls Tryz.prog 79 #[v] w fun e w' => rS w w' e ws := by
 obtain ⟨ao, cap, rfl⟩ := aI h
 by_cases hn : ws.length ≤ 200
 ·
  by_cases hp : 0 < ws.length
  ·
   obtain ⟨b, off, rfl, hbl⟩ := ab.aS h hp
   exact qT b off cap ws w h hbl hn
  obtain rfl : ws = [] := List.eq_nil_of_length_eq_zero (by omega)
  clear h hn hp
  have HT0 := yh (ky w)
  have HB0 := yh (((Below.refl w.heap.size w).alloc (Nat.le_refl _) (.map #[] 0)).alloc (by simp) (.cells #[.slice none 0 0, .map (some w.heap.size), .int .i64 0, .int .i64 0, .int .i64 0, .int .i64 0, .int .i64 0, .int .i64 0, .int .i64 0, .int .i64 0, .int .i64 0, .int .i64 0] 137))
  have hmk := @run_makeMap Tryz.prog
  go_enter Tryz.func79, Tryz.ntmps79
  go_wp2_with fail
  clear hmk
  refine wp_loop_rounds 1 ?_
  rw [rounds_succ]
  go_wp2_with fail
  refine bodyPost_ret (v := .tuple #[.pointer (some ⟨w.heap.size + 1, 0, none⟩), .int .i64 0]) (by simp [results, Tryz.results79, go_sem]) rfl ?_
  exact ⟨.pointer (some ⟨w.heap.size + 1, 0, none⟩), rfl, fun _ => ⟨rfl, _, _, _, uh HT0⟩, fun e => absurd rfl e, uh HB0⟩
 have e : aR ws = 2 := by rw [aR, if_pos (by omega)]
 have HG := yh e
 have hd : decide ((200 : Int) < (ws.length : Int)) = true := by simp; omega
 clear h e
 go_enter Tryz.func79, Tryz.ntmps79
 go_wp2_with fail
 refine bodyPost_ret (v := .tuple #[.pointer none, .int .i64 2]) (by simp [results, Tryz.results79, go_sem]) rfl ?_
 exact ⟨.pointer none, by rw [uh HG], fun e => absurd ((uh HG).symm.trans e) (by decide), fun _ => rfl, Below.refl _ _⟩
end Go.Proofs.YtomphbenbnnfgaaGreatDoor
