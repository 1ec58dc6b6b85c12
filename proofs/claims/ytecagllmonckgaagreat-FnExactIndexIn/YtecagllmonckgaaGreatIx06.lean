/-
  Texts of this proof in one: NodePlain, LayChainResult, LayTextResult, ReadPlain, NumPlain, ChainPlain, LayNetResult, SamePlain, NetPlain, NetsPlain, WorldPlain, ToldPlainW, OwnMsg, OwnNetResult, StoreKit, NetKit, OwnWorld, OwnWorldResult, OwnChain, OwnChainResult, ChainKit, WorldOK, WorldSt, ImplNodeId, ImplEpoch, PartReads, ImplChainF, ImplUpTo, NodeEqs, TickMap, ToldPlain, AppInt, AppWrite.
  Their conditions stand in their theorems.
-/
import Derived.Test.YtecagllmonckgaaGreatIx05
import Derived.Test.YtecagllmonckgaaGreatIx01
import Derived.Test.YtecagllmonckgaaGreatIx00
import Derived.WalkKit
import Derived.Test.YtecagllmonckgaaGreatChecked
import Derived.Deep.CutRange
import Derived.Maps.OwnSet
import Derived.DeepKeys4
import Derived.Deep.AppendLies
set_option maxRecDepth 100000
set_option maxHeartbeats 4000000
namespace Go.Proofs.YtecagllmonckgaaGreat
open Go.RowKit
def ax (x : bp) : Int :=
 if 1 ≤ x.id ∧ x.id ≤ 5 ∧ 0 ≤ x.ab ∧ x.ab ≤ 999 ∧ 0 ≤ x.aj ∧ x.aj ≤ 9999 then
  if 40 < x.writes.length then 2
  else if ba x.writes ≠ 0 then ba x.writes
  else if bK [] x.writes = false then 6
  else if 0 ≤ x.sure ∧ x.sure ≤ x.writes.length ∧ 0 ≤ x.clean ∧ x.clean ≤ x.sure then
   if x.up = false ∧ ¬ (x.sure = x.writes.length ∧ x.clean = 0 ∧ x.aj = 0) then 1 else 0
  else 3
 else 3
def lR : bp := ⟨0, false, 0, 0, [], 0, 0⟩
theorem fc (x : bp) : 0 ≤ ax x ∧ ax x ≤ 6 := by
 have := ia x.writes
 unfold ax
 split
 ·
  split
  ·
   omega
  split
  ·
   omega
  split
  ·
   omega
  split
  ·
   split <;> omega
  omega
 omega
structure mc (x : bp) : Prop where
 id : 1 ≤ x.id ∧ x.id ≤ 5
 ab : 0 ≤ x.ab ∧ x.ab ≤ 999
 aj : 0 ≤ x.aj ∧ x.aj ≤ 9999
 len : x.writes.length ≤ 40
 ws : ∀ y ∈ x.writes, wF y = 0
 once : bK [] x.writes = true
 sure : 0 ≤ x.sure ∧ x.sure ≤ x.writes.length
 clean : 0 ≤ x.clean ∧ x.clean ≤ x.sure
 down : x.up = false → x.sure = x.writes.length ∧ x.clean = 0 ∧ x.aj = 0
theorem ch {x : bp} (h : ax x = 0) : mc x := by
 unfold ax at h
 split at h
 ·
  rename_i h1
  split at h
  ·
   simp at h
  rename_i h2
  split at h
  ·
   rename_i h3; exact absurd h h3
  rename_i h3
  split at h
  ·
   simp at h
  rename_i h4
  split at h
  ·
   rename_i h5
   split at h
   ·
    simp at h
   rename_i h6
   refine ⟨by omega, by omega, by omega, by omega, eI (by simpa using h3), by simpa using h4, by omega, by omega, fun hu => ?_⟩
   exact Classical.byContradiction fun hc => h6 ⟨hu, hc⟩
  simp at h
 simp at h
end Go.Proofs.YtecagllmonckgaaGreat

namespace Go.Proofs.YtecagllmonckgaaGreat
end Go.Proofs.YtecagllmonckgaaGreat

namespace Go.Proofs.YtecagllmonckgaaGreat
end Go.Proofs.YtecagllmonckgaaGreat

namespace Go.Proofs.YtecagllmonckgaaGreat
open Go.RowKit
def mg (ids : List Int) (id : Int) : Nat := ids.findIdx (· == id)
def aS (ids : List Int) (id : Int) : Int := if mg ids id < ids.length then (mg ids id : Int) else -1
def dc : List Int → List Int → Int
 | _, [] => 0
 | pre, z :: zs => if 1 ≤ z ∧ z ≤ 5 then (if z ∈ pre then 6 else dc (pre ++ [z]) zs) else 3
def au (x : a0) : Int :=
 if 1 ≤ x.ab ∧ x.ab ≤ 999 then (if 1 ≤ x.ids.length ∧ x.ids.length ≤ 5 then dc [] x.ids else 2) else 3
theorem jH (ids : List Int) (id : Int) : -1 ≤ aS ids id ∧ aS ids id < ids.length + 1 := by
 unfold aS
 split <;> omega
theorem fq (ids : List Int) (id : Int) : aS ids id < 0 ↔ id ∉ ids := by
 unfold aS mg
 have h := List.findIdx_lt_length (p := fun z => z == id) (xs := ids)
 constructor
 ·
  intro h1 hm
  rw [if_pos (h.2 ⟨id, hm, by simp⟩)] at h1
  omega
 intro h1
 rw [if_neg]
 ·
  omega
 intro h2
 obtain ⟨z, hz, e⟩ := h.1 h2
 rw [beq_iff_eq] at e
 rw [e] at hz
 exact h1 hz
theorem ed {ids : List Int} {id : Int} {k : Nat} (hk : k < ids.length) (h : ids[k] = id) (hb : ∀ j (hj : j < k), ids[j] ≠ id) : aS ids id = (k : Int) := by
 have e : mg ids id = k := by
  unfold mg
  rw [List.findIdx_eq hk]
  exact ⟨by simpa using h, fun j hj => by simpa using hb j hj⟩
 rw [aS, e, if_pos hk]
theorem eF {ids : List Int} {id : Int} (hb : ∀ j (hj : j < ids.length), ids[j] ≠ id) : aS ids id = -1 := by
 have h1 : aS ids id < 0 := by
  rw [fq]
  intro hm
  obtain ⟨j, hj, e⟩ := List.getElem_of_mem hm
  exact hb j hj e
 have := jH ids id
 omega
theorem iA {ids : List Int} {id : Int} (h : 0 ≤ aS ids id) : ∃ (k : Nat) (hk : k < ids.length), aS ids id = (k : Int) ∧ ids[k] = id ∧ ∀ j (hj : j < k), ids[j] ≠ id := by
 have hl : mg ids id < ids.length := by
  unfold aS at h
  split at h
  ·
   assumption
  omega
 refine ⟨mg ids id, hl, by rw [aS, if_pos hl], ?_, fun j hj => ?_⟩
 ·
  have := List.findIdx_getElem (xs := ids) (p := fun z => z == id) (w := hl)
  exact beq_iff_eq.1 this
 have := List.not_of_lt_findIdx (xs := ids) (p := fun z => z == id) hj
 simpa using this
theorem fQ : ∀ (zs pre : List Int), 0 ≤ dc pre zs ∧ dc pre zs ≤ 6
 | [], _ => by simp [dc]
 | z :: zs, pre => by
  rw [dc]
  split
  ·
   split
   ·
    omega
   exact fQ zs _
  omega
theorem eO (x : a0) : 0 ≤ au x ∧ au x ≤ 6 := by
 have := fQ x.ids []
 unfold au
 split
 ·
  split <;> omega
 omega
theorem gf (ids : List Int) (k : Nat) (hk : k < ids.length) : dc (ids.take k) (ids.drop k) = if 1 ≤ ids[k] ∧ ids[k] ≤ 5 then (if ids[k] ∈ ids.take k then 6 else dc (ids.take (k + 1)) (ids.drop (k + 1))) else 3 := by
 conv => lhs; rw [List.drop_eq_getElem_cons hk, dc]
 rw [List.take_succ_eq_append_getElem hk]
theorem gI (ids : List Int) : dc (ids.take ids.length) (ids.drop ids.length) = 0 := by simp [dc]
theorem gW {ids : List Int} {k : Nat} (hk : k < ids.length) : (aS ids ids[k] = (k : Int)) ↔ ids[k] ∉ ids.take k := by
 constructor
 ·
  intro h hm
  obtain ⟨j, hj, e⟩ := List.getElem_of_mem hm
  rw [List.length_take] at hj
  rw [List.getElem_take] at e
  obtain ⟨m, hm1, h1, h2, h3⟩ := iA (ids := ids) (id := ids[k]) (by omega)
  obtain rfl : m = k := by omega
  exact h3 j (by omega) e
 intro h
 refine ed hk rfl fun j hj e => h ?_
 rw [List.mem_iff_getElem]
 exact ⟨j, by rw [List.length_take]; omega, by rw [List.getElem_take]; exact e⟩
structure kT (x : a0) : Prop where
 ab : 1 ≤ x.ab ∧ x.ab ≤ 999
 len : 1 ≤ x.ids.length ∧ x.ids.length ≤ 5
 ids : ∀ z ∈ x.ids, 1 ≤ z ∧ z ≤ 5
 nodup : x.ids.Nodup
theorem fX : ∀ (zs pre : List Int), dc pre zs = 0 → (∀ z ∈ zs, 1 ≤ z ∧ z ≤ 5) ∧ zs.Nodup ∧ ∀ z ∈ zs, z ∉ pre
 | [], _, _ => by simp
 | z :: zs, pre, h => by
  rw [dc] at h
  split at h
  ·
   rename_i h1
   split at h
   ·
    simp at h
   rename_i h2
   obtain ⟨q1, q2, q3⟩ := fX zs _ h
   refine ⟨?_, ?_, ?_⟩
   ·
    intro u hu
    rcases List.mem_cons.1 hu with rfl | hu
    ·
     exact h1
    exact q1 u hu
   ·
    refine List.nodup_cons.2 ⟨fun hm => q3 z hm (by simp), q2⟩
   intro u hu hp
   rcases List.mem_cons.1 hu with rfl | hu
   ·
    exact h2 hp
   exact q3 u hu (List.mem_append_left _ hp)
  simp at h
theorem cz {x : a0} (h : au x = 0) : kT x := by
 unfold au at h
 split at h
 ·
  rename_i h1
  split at h
  ·
   rename_i h2
   obtain ⟨q1, q2, -⟩ := fX _ _ h
   exact ⟨h1, h2, q1, q2⟩
  simp at h
 simp at h
def bW (x y : ai) : Bool := x.kind == y.kind && (x.id == y.id && (x.aa == y.aa && (x.seq == y.seq && decide (x.vec = y.vec))))
def iO (y : ai) : Prop := y.kind = 0 ∧ y.id = 0 ∧ y.aa = 0 ∧ y.seq = 0 ∧ y.vec.length = 0
instance (y : ai) : Decidable (iO y) := by unfold iO; infer_instance
def aw (x : bm) : Int :=
 if ¬ (1 ≤ x.kind ∧ x.kind ≤ 2) ∨ x.src = x.dst ∨ (x.kind = 2 ∧ ¬ iO x.write) then 1
 else if ¬ (1 ≤ x.ab ∧ x.ab ≤ 999) ∨ ¬ (1 ≤ x.src ∧ x.src ≤ 5) ∨ ¬ (1 ≤ x.dst ∧ x.dst ≤ 5) ∨ ¬ (0 ≤ x.index ∧ x.index ≤ 40) ∨ (x.kind ≠ 2 ∧ x.index = 0) then 3
 else if x.kind = 2 then 0 else wF x.write
def bg : List bm → Int
 | [] => 0
 | x :: xs => if aw x = 0 then bg xs else aw x
def aG (xs : List bm) : Int := if 40 < xs.length then 2 else bg xs
theorem fE (x : bm) : 0 ≤ aw x ∧ aw x ≤ 6 := by
 have := gl x.write
 unfold aw
 split
 ·
  omega
 split
 ·
  omega
 split
 ·
  omega
 omega
theorem dB : ∀ xs : List bm, 0 ≤ bg xs ∧ bg xs ≤ 6
 | [] => by simp [bg]
 | x :: xs => by
  rw [bg]
  split
  ·
   exact dB xs
  exact fE x
theorem fC (xs : List bm) : 0 ≤ aG xs ∧ aG xs ≤ 6 := by
 unfold aG
 split
 ·
  omega
 exact dB xs
theorem dM : ∀ {xs : List bm}, (∀ x ∈ xs, aw x = 0) → bg xs = 0
 | [], _ => rfl
 | x :: xs, h => by
  rw [bg, if_pos (h x (by simp))]
  exact dM fun y hy => h y (List.mem_cons_of_mem _ hy)
theorem ek : ∀ {xs : List bm} {k : Nat} (hk : k < xs.length), (∀ j (hj : j < k), aw xs[j] = 0) → aw xs[k] ≠ 0 → bg xs = aw xs[k]
 | x :: xs, 0, hk, _, h => by
  have h1 : aw x ≠ 0 := h
  rw [bg, if_neg h1]
  rfl
 | x :: xs, k + 1, hk, hb, h => by
  have h1 : aw x = 0 := hb 0 (by omega)
  rw [bg, if_pos h1]
  exact ek (xs := xs) (k := k) (by simpa using hk) (fun j hj => hb (j + 1) (by omega)) h
def bq (x : aM) (id : Int) : Bool := decide (1 ≤ id) && decide (id ≤ (x.nodes.length : Int))
def bk (c : a0) : Nat → List bp → Int
 | _, [] => 0
 | i, n :: ns =>
  if ax n ≠ 0 then ax n
  else if n.id ≠ (i : Int) + 1 then 1
  else if c.ab < n.ab ∨ (n.up = true ∧ 0 ≤ aS c.ids n.id ∧ n.ab ≠ c.ab) then 7
  else bk c (i + 1) ns
def aR (x : aM) : Int :=
 if bk x.chain 0 x.nodes ≠ 0 then bk x.chain 0 x.nodes
 else if x.chain.ids.all (bq x) then 0 else 4
def dm (x : aM) (e : bN) : Bool :=
 (decide (1 ≤ e.kind) && decide (e.kind ≤ 3)) && ((decide (1 ≤ e.start) && decide (e.start ≤ x.events)) && ((e.fin == 0 || (decide (e.start ≤ e.fin) && decide (e.fin ≤ x.events))) && (decide (0 ≤ e.place) && decide (e.place ≤ 40))))
def aA (x : aM) : Int :=
 if ¬ (0 ≤ x.now ∧ x.now ≤ 9000) ∨ ¬ (0 ≤ x.events ∧ x.events ≤ 9999) then 3
 else if au x.chain ≠ 0 then au x.chain
 else if x.nodes.length < 1 ∨ 5 < x.nodes.length then 2
 else if aR x ≠ 0 then aR x
 else if aG x.msgs ≠ 0 then aG x.msgs
 else if 60 < x.ae.length then 2
 else if x.ae.all (dm x) then 0 else 3
def gi (x : aM) (id : Int) : bp := x.nodes.getD (id - 1).toNat lR
theorem eu (c : a0) : ∀ (i : Nat) (ns : List bp), 0 ≤ bk c i ns ∧ bk c i ns ≤ 10
 | _, [] => by simp [bk]
 | i, n :: ns => by
  have h1 := fc n
  have h2 := eu c (i + 1) ns
  rw [bk]
  split
  ·
   omega
  split
  ·
   omega
  split
  ·
   omega
  exact h2
theorem eM (x : aM) : 0 ≤ aR x ∧ aR x ≤ 10 := by
 have := eu x.chain 0 x.nodes
 unfold aR
 split
 ·
  omega
 split <;> omega
theorem eK (x : aM) (hc : 0 ≤ au x.chain ∧ au x.chain ≤ 6) : 0 ≤ aA x ∧ aA x ≤ 10 := by
 have h1 := eM x
 have h2 := fC x.msgs
 unfold aA
 repeat' split
 all_goals omega
theorem cu {w : World} {b off cap k : Nat} {zs : List Int} (h : (ad.sl ad.int).Reads w [.slice (some ⟨b, off, none⟩) zs.length cap] zs) (hk : k < zs.length) : w.cell? ⟨b, off + k, none⟩ = some (.int .i64 zs[k]) := by
 obtain ⟨bl, h⟩ := h
 obtain ⟨ao, cp, e, -, -, h⟩ := ad.cD.1 h
 simp only [Value.slice.injEq] at e
 obtain ⟨rfl, -, rfl⟩ := e
 rcases h with ⟨rfl, -⟩ | ⟨b', off', e2, -, -, hj⟩
 ·
  simp at hk
 simp only [Option.some.injEq, Addr.mk.injEq, and_true] at e2
 obtain ⟨rfl, rfl⟩ := e2
 rw [hj k hk]
 simp [List.getD, hk]
theorem cC {w : World} {c n : Int} {lo hi : Nat} (hc : (Lit.int .i64 c).wf = true) (hn : (Lit.int .i64 n).wf = true) : ad.bB.aT w [.int .i64 c, .int .i64 n] ⟨c, n⟩ lo hi :=
 ⟨[], ⟨bD.2 ⟨rfl, rfl, hc, hn⟩, by simp, by simp⟩, by simp⟩
structure cA (x : aM) : Prop where
 now : 0 ≤ x.now ∧ x.now ≤ 9000
 events : 0 ≤ x.events ∧ x.events ≤ 9999
 chain : au x.chain = 0
 some : 1 ≤ x.nodes.length ∧ x.nodes.length ≤ 5
 nodes : ∀ k (h : k < x.nodes.length), ax x.nodes[k] = 0 ∧ x.nodes[k].id = (k : Int) + 1 ∧ x.nodes[k].ab ≤ x.chain.ab
 ids : ∀ z ∈ x.chain.ids, bq x z = true
 net : aG x.msgs = 0
 few : x.ae.length ≤ 60
 told : ∀ e ∈ x.ae, dm x e = true
theorem eG (c : a0) : ∀ (ns : List bp) (i : Nat), bk c i ns = 0 → ∀ k (h : k < ns.length), ax ns[k] = 0 ∧ ns[k].id = ((i + k : Nat) : Int) + 1 ∧ ns[k].ab ≤ c.ab
 | [], _, _, k, h => by simp at h
 | n :: ns, i, h0, k, h => by
  rw [bk] at h0
  split at h0
  ·
   rename_i q; exact absurd h0 q
  rename_i q1
  split at h0
  ·
   simp at h0
  rename_i q2
  split at h0
  ·
   simp at h0
  rename_i q3
  cases k with
  | zero => exact ⟨by simpa using q1, by simpa using q2, by
    have : ¬ c.ab < n.ab := fun q => q3 (Or.inl q)
    simp
    omega⟩
  | succ k =>
   have := eG c ns (i + 1) h0 k (by simpa using h)
   obtain ⟨a1, a2, a3⟩ := this
   refine ⟨by simpa using a1, ?_, by simpa using a3⟩
   simp only [List.getElem_cons_succ]
   rw [a2]
   omega
theorem cY {x : aM} (h : aA x = 0) : cA x := by
 unfold aA at h
 split at h
 ·
  simp at h
 rename_i h1
 split at h
 ·
  rename_i q; exact absurd h q
 rename_i h2
 split at h
 ·
  simp at h
 rename_i h3
 split at h
 ·
  rename_i q; exact absurd h q
 rename_i h4
 split at h
 ·
  rename_i q; exact absurd h q
 rename_i h5
 split at h
 ·
  simp at h
 rename_i h6
 split at h
 ·
  rename_i h7
  have h4' : aR x = 0 := by simpa using h4
  unfold aR at h4'
  have h8 : bk x.chain 0 x.nodes = 0 ∧ x.chain.ids.all (bq x) = true := by
   split at h4'
   ·
    rename_i q; exact absurd h4' q
   rename_i q
   split at h4'
   ·
    rename_i q2; exact ⟨by simpa using q, q2⟩
   simp at h4'
  refine ⟨by omega, by omega, by simpa using h2, by omega, fun k hk => ?_, fun z hz => List.all_eq_true.1 h8.2 z hz, by simpa using h5, by omega, fun e he => List.all_eq_true.1 h7 e he⟩
  have := eG x.chain x.nodes 0 h8.1 k hk
  simpa using this
 simp at h
theorem bL (n : Int) (w : World) :
  Calls Tryz.prog 225 #[.int .i64 n] w fun e w' => e = .returned (.bool (decide (1 ≤ n) && decide (n ≤ 5))) ∧ w' = w := by
 by_cases h1 : 1 ≤ n
 ·
  have d1 : decide (1 ≤ n) = true := by simpa using h1
  rw [d1]
  cases d2 : decide (n ≤ 5) <;>
  ·
   go_enter Tryz.func225, Tryz.ntmps225
   go_wp2_with fail
   go_ret
   exact ⟨rfl, rfl⟩
 have d1 : decide (1 ≤ n) = false := by simpa using h1
 rw [d1]
 go_enter Tryz.func225, Tryz.ntmps225
 go_wp2_with fail
 go_ret
 exact ⟨rfl, rfl⟩
theorem bM (n : Int) (w : World) :
  Calls Tryz.prog 177 #[.int .i64 n] w fun e w' => e = .returned (.bool (decide (1 ≤ n) && decide (n ≤ 999))) ∧ w' = w := by
 by_cases h1 : 1 ≤ n
 ·
  have d1 : decide (1 ≤ n) = true := by simpa using h1
  rw [d1]
  cases d2 : decide (n ≤ 999) <;>
  ·
   go_enter Tryz.func177, Tryz.ntmps177
   go_wp2_with fail
   go_ret
   exact ⟨rfl, rfl⟩
 have d1 : decide (1 ≤ n) = false := by simpa using h1
 rw [d1]
 go_enter Tryz.func177, Tryz.ntmps177
 go_wp2_with fail
 go_ret
 exact ⟨rfl, rfl⟩
theorem iF {w : World} {b off cap : Nat} {zs : List Int} (h : (ad.sl ad.int).Reads w [.slice (some ⟨b, off, none⟩) zs.length cap] zs) (m n c : Nat) (hm : m + n ≤ zs.length) (hc : n ≤ c) :
  (ad.sl ad.int).Reads w [.slice (some ⟨b, off + m, none⟩) n c] ((zs.drop m).take n) := by
 have hi := ad.bt h
 have hbig := h.db
 obtain ⟨ao, cp, e, hwf, hcs⟩ := hi
 have hlen : ((zs.drop m).take n).length = n := by simp; omega
 refine ad.eS ?_ (fun ao' cap' e' => ?_) (by rw [hlen]; omega)
 ·
  refine ⟨_, c, by rw [hlen], fun z hz => hwf z (List.mem_of_mem_drop (List.mem_of_mem_take hz)), fun hp => ⟨b, off + m, rfl, fun j hj => ?_⟩⟩
  rw [hlen] at hp hj
  obtain ⟨b', off', hao, hc1⟩ := hcs (by omega)
  simp only [Value.slice.injEq] at e
  obtain ⟨rfl, -, -⟩ := e
  simp only [Option.some.injEq, Addr.mk.injEq, and_true] at hao
  obtain ⟨rfl, rfl⟩ := hao
  rw [Nat.add_assoc, hc1 (m + j) (by omega)]
  simp only [List.getD]
  rw [List.getElem?_take, if_pos hj, List.getElem?_drop]
 simp only [Value.slice.injEq] at e'
 rw [hlen]
 omega
theorem iK {w : World} {ao : Option Addr} {n cap : Nat} {zs : List Int} (h : (ad.sl ad.int).Reads w [.slice ao n cap] zs) (k : Nat) (hk : k ≤ zs.length) :
  (ad.sl ad.int).Reads w [.slice ao k cap] (zs.take k) := by
 have hc := h.cap
 by_cases h0 : k = 0
 ·
  subst h0
  rw [List.take_zero]
  exact ad.eS ⟨ao, cap, rfl, by simp, fun hp => by simp at hp⟩ (fun _ _ _ => by simp) (by simp)
 have hi := ad.bt h
 obtain ⟨ao', cp, e, hwf, hcs⟩ := hi
 obtain ⟨b', off', hao, hc1⟩ := hcs (by omega)
 simp only [Value.slice.injEq] at e
 obtain ⟨rfl, rfl, rfl⟩ := e
 subst hao
 have := iF h 0 k cap (by omega) (by omega)
 simpa using this
theorem dJ (n : Int) (w : World) :
  Calls Tryz.prog 179 #[.int .i64 n] w fun e w' => e = .returned (.bool (decide (1 ≤ n) && decide (n ≤ 5))) ∧ w' = w := by
 by_cases h1 : 1 ≤ n
 ·
  have d1 : decide (1 ≤ n) = true := by simpa using h1
  rw [d1]
  cases d2 : decide (n ≤ 5) <;>
  ·
   go_enter Tryz.func179, Tryz.ntmps179
   go_wp2_with fail
   go_ret
   exact ⟨rfl, rfl⟩
 have d1 : decide (1 ≤ n) = false := by simpa using h1
 rw [d1]
 go_enter Tryz.func179, Tryz.ntmps179
 go_wp2_with fail
 go_ret
 exact ⟨rfl, rfl⟩
theorem lI (v : Value) (ids : List Int) (id : Int) (w : World) (R : (ad.sl ad.int).Reads w [v] ids) :
  Calls Tryz.prog 256 #[v, .int .i64 id] w fun e w' => e = .returned (.int .i64 (aS ids id)) ∧ w' = w := by
 obtain ⟨ao, cap, rfl⟩ := aC R
 have hbig := R.db
 have H := yh R
 clear R
 go_enter Tryz.func256, Tryz.ntmps256
 go_wp2_with fail
 go_loop [8] (fun i => ∃ k : Nat, k ≤ ids.length ∧ i = .int .i64 k ∧ (∀ j (hj : j < ids.length), j < k → ids[j] ≠ id)) (fun i => ids.length - (intOf i).toNat)
 case atStart => exact ⟨0, Nat.zero_le _, rfl, fun j _ h => by omega⟩
 case round =>
  obtain ⟨k, hk, rfl, hz⟩ := hrel
  by_cases hlt : k < ids.length
  ·
   obtain ⟨b2, off, rfl, -⟩ := ad.aI (uh H) (by omega)
   have c1 := cu (uh H) hlt
   cases hq : (id == ids[k])
   ·
    have HZ : Hid (∀ j (hj : j < ids.length), j < k + 1 → ids[j] ≠ id) := fun j hj hjk => by
     by_cases h2 : j < k
     ·
      exact hz j hj h2
     obtain rfl : j = k := by omega
     intro h3
     rw [h3] at hq
     simp at hq
    clear hz
    generalize ids[k] = z at *
    go_wp2_with fail
    go_round
    case rel => exact ⟨k + 1, by omega, by go_num, uh HZ⟩
    case measure => simp [intOf]; omega
   have HP := yh (ed hlt (beq_iff_eq.1 hq).symm (fun j hj => hz j (by omega) hj))
   clear hz
   generalize ids[k] = z at *
   go_wp2_with fail
   go_ret
   exact ⟨by rw [uh HP]; rfl, rfl⟩
  obtain rfl : k = ids.length := by omega
  have HP := yh (eF (id := id) (fun j hj => hz j hj hj))
  clear hz
  go_wp2_with fail
  go_ret
  exact ⟨by rw [uh HP]; rfl, rfl⟩
theorem fT (v : Value) (ids : List Int) (id : Int) (w : World) (R : (ad.sl ad.int).Reads w [v] ids) :
  Calls Tryz.prog 226 #[v, .int .i64 id] w fun e w' => e = .returned (.bool (decide (0 ≤ aS ids id))) ∧ w' = w := by
 have HL := yh (lI v ids id w R)
 obtain ⟨ao, cap, rfl⟩ := aC R
 generalize aS ids id = n at *
 clear R
 go_enter Tryz.func226, Tryz.ntmps226
 go_wp2_with fail
 refine (uh HL).mono ?_
 rintro e w1 ⟨rfl, h1⟩
 subst w1
 clear HL
 go_wp2_with fail
 go_ret
 exact ⟨rfl, rfl⟩
def cf (ids : List Int) : Int := if 1 ≤ ids.length ∧ ids.length ≤ 5 then dc [] ids else 2
theorem fh {ids : List Int} (h : (decide (1 ≤ (ids.length : Int)) && decide ((ids.length : Int) ≤ 5)) = false) : cf ids = 2 := by
 rw [cf, if_neg]
 intro h2
 rw [decide_eq_true (by omega), decide_eq_true (by omega)] at h
 simp at h
theorem fH {ids : List Int} (h : (decide (1 ≤ (ids.length : Int)) && decide ((ids.length : Int) ≤ 5)) = true) : cf ids = dc (ids.take 0) (ids.drop 0) := by
 rw [cf, if_pos]
 ·
  simp
 simp at h
 omega
theorem jE (ids : List Int) (z : Int) : decide (0 ≤ aS ids z) = true ↔ z ∈ ids := by
 have h := fq ids z
 rw [decide_eq_true_iff]
 constructor
 ·
  intro h1
  refine Decidable.byContradiction fun h2 => ?_
  have := h.2 h2
  omega
 intro h1
 refine Decidable.byContradiction fun h2 => ?_
 exact h.1 (by omega) h1
theorem jP (v : Value) (ids : List Int) (w : World) (R : (ad.sl ad.int).Reads w [v] ids) :
  Calls Tryz.prog 178 #[v] w fun e w' => e = .returned (.int .i64 (cf ids)) ∧ w' = w := by
 obtain ⟨ao, cap, rfl⟩ := aC R
 have hbig := R.db
 have hcap := R.cap
 have H := yh R
 clear R
 go_enter Tryz.func178, Tryz.ntmps178
 go_wp2_with fail
 refine (dJ (ids.length : Int) w).mono ?_
 rintro e w1 ⟨rfl, h1⟩
 subst w1
 cases d1 : (decide (1 ≤ (ids.length : Int)) && decide ((ids.length : Int) ≤ 5))
 ·
  have HF := yh (fh d1)
  clear d1
  go_wp2_with fail
  go_ret
  exact ⟨by rw [uh HF]; rfl, rfl⟩
 have HF := yh (fH d1)
 clear d1
 go_wp2_with fail
 go_loop [11] (fun i => ∃ k : Nat, k ≤ ids.length ∧ i = .int .i64 k ∧ cf ids = dc (ids.take k) (ids.drop k)) (fun i => ids.length - (intOf i).toNat)
 case atStart => exact ⟨0, Nat.zero_le _, rfl, uh HF⟩
 case round =>
  obtain ⟨k, hk, rfl, hz⟩ := hrel
  clear HF
  by_cases hlt : k < ids.length
  ·
   rw [gf ids k hlt] at hz
   obtain ⟨b2, off, rfl, -⟩ := ad.aI (uh H) (by omega)
   have c1 := cu (uh H) hlt
   have HC := yh (fT (.slice (some ⟨b2, off, none⟩) k cap) (ids.take k) ids[k] w (iK (uh H) k (by omega)))
   have HM := yh (jE (ids.take k) ids[k])
   have hdl : decide ((k : Int) < (ids.length : Int)) = true := by simp; omega
   have HZ := yh hz
   have hkc : k ≤ cap := by omega
   clear hz
   generalize ids[k] = z at *
   generalize ids.take k = zk at *
   go_wp2_with fail
   refine (bL z w).mono ?_
   rintro e w1 ⟨rfl, h1⟩
   subst w1
   cases d2 : (decide (1 ≤ z) && decide (z ≤ 5))
   ·
    have hz := uh HZ
    rw [if_neg (by intro h; simp at d2; omega)] at hz
    have HF := yh hz
    clear hz HZ d2
    go_wp2_with fail
    go_ret
    exact ⟨by rw [uh HF]; rfl, rfl⟩
   have hz := uh HZ
   rw [if_pos (by simpa using d2)] at hz
   clear HZ d2
   have HZ := yh hz
   clear hz
   go_wp2_with fail
   refine (uh HC).mono ?_
   rintro e w1 ⟨rfl, h1⟩
   subst w1
   cases d3 : decide (0 ≤ aS zk z)
   ·
    have hz := uh HZ
    rw [if_neg (fun hm => by rw [(uh HM).2 hm] at d3; simp at d3)] at hz
    have HF := yh hz
    clear hz HZ d3 HM HC
    go_wp2_with fail
    go_round
    case rel => exact ⟨k + 1, by omega, by go_num, uh HF⟩
    case measure => simp [intOf]; omega
   have hz := uh HZ
   rw [if_pos ((uh HM).1 d3)] at hz
   have HF := yh hz
   clear hz HZ d3 HM HC
   go_wp2_with fail
   go_ret
   exact ⟨by rw [uh HF]; rfl, rfl⟩
  obtain rfl : k = ids.length := by omega
  rw [gI] at hz
  have HF := yh hz
  clear hz
  go_wp2_with fail
  go_ret
  exact ⟨by rw [uh HF]; rfl, rfl⟩
theorem ly {x : a0} (h : (decide (1 ≤ x.ab) && decide (x.ab ≤ 999)) = false) : au x = 3 := by rw [au, if_neg (by simp at h; omega)]
theorem kV {x : a0} (h : (decide (1 ≤ x.ab) && decide (x.ab ≤ 999)) = true) : au x = cf x.ids := by rw [au, if_pos (by simp at h; omega), cf]
theorem fv (cs : List Value) (x : a0) (w : World) (h : ad.aX.Reads w cs x) :
  Calls Tryz.prog 114 #[.agg cs.toArray] w fun e w' => e = .returned (.int .i64 (au x)) ∧ Below w.heap.size w w' := by
 obtain ⟨a, d, rfl, R⟩ := bc h
 have nb : Below w.heap.size w (w.alloc (.cells #[.int .i64 x.ab, .slice a x.ids.length d] 32)) := (Below.refl _ _).alloc (Nat.le_refl _) _
 have HR := yh (R.af nb)
 have HB := yh nb
 have HX : Hid (al 0 #[.int .i64 x.ab, .slice a x.ids.length d] 32 (w.alloc (.cells #[.int .i64 x.ab, .slice a x.ids.length d] 32)) w.heap.size) := aK (Nat.zero_le _)
 clear R h nb
 go_enter Tryz.func114, Tryz.ntmps114
 go_upto_region 1 with fail
 generalize w.alloc (.cells #[.int .i64 x.ab, .slice a x.ids.length d] 32) = W at *
 have z0 : W.cell? ⟨w.heap.size, 0, none⟩ = some (.int .i64 x.ab) := (uh HX).at 0 _ rfl
 have z1 : W.cell? ⟨w.heap.size, 1, none⟩ = some (.slice a x.ids.length d) := (uh HX).at 1 _ rfl
 clear HX
 cases d1 : (decide (1 ≤ x.ab) && decide (x.ab ≤ 999))
 ·
  have HF := yh (ly d1)
  have L := yh (bM x.ab W)
  rw [d1] at L
  clear d1
  go_wp2_with fail
  refine (uh L).mono ?_
  rintro e w1 ⟨rfl, h1⟩
  subst w1
  clear L
  go_wp2_with fail
  go_ret
  exact ⟨by rw [uh HF]; rfl, uh HB⟩
 have HF := yh (kV d1)
 have L := yh (bM x.ab W)
 rw [d1] at L
 clear d1
 go_wp2_with fail
 refine (uh L).mono ?_
 rintro e w1 ⟨rfl, h1⟩
 subst w1
 clear L
 have L := yh (jP _ x.ids _ (uh HR))
 go_wp2_with fail
 refine (uh L).mono ?_
 rintro e w1 ⟨rfl, h1⟩
 subst w1
 clear L
 go_wp2_with fail
 go_ret
 exact ⟨by rw [uh HF]; rfl, uh HB⟩
theorem cB (n m : Int) (w : World) :
  Calls Tryz.prog 113 #[.int .i64 n, .int .i64 m] w fun e w' => e = .returned (.bool (decide (0 ≤ n) && decide (n ≤ m))) ∧ w' = w := by
 by_cases h1 : 0 ≤ n
 ·
  have d1 : decide (0 ≤ n) = true := by simpa using h1
  rw [d1]
  cases d2 : decide (n ≤ m) <;>
  ·
   go_enter Tryz.func113, Tryz.ntmps113
   go_wp2_with fail
   go_ret
   exact ⟨rfl, rfl⟩
 have d1 : decide (0 ≤ n) = false := by simpa using h1
 rw [d1]
 go_enter Tryz.func113, Tryz.ntmps113
 go_wp2_with fail
 go_ret
 exact ⟨rfl, rfl⟩
def bn (ws : List ai) : Int := if 40 < ws.length then 2 else if ba ws ≠ 0 then ba ws else if bK [] ws = false then 6 else 0
def b8 (x : bp) : Bool := (x.sure == (x.writes.length : Int)) && (x.clean == 0 && x.aj == 0)
theorem lE {x : bp} (h : (decide (1 ≤ x.id) && decide (x.id ≤ 5)) = false) : ax x = 3 := by
 simp only [Bool.and_eq_false_iff, decide_eq_false_iff_not] at h
 rw [ax, if_neg (by omega)]
theorem gG {x : bp} (h : (decide (0 ≤ x.ab) && decide (x.ab ≤ 999)) = false) : ax x = 3 := by
 simp only [Bool.and_eq_false_iff, decide_eq_false_iff_not] at h
 rw [ax, if_neg (by omega)]
theorem gR {x : bp} (h : (decide (0 ≤ x.aj) && decide (x.aj ≤ 9999)) = false) : ax x = 3 := by
 simp only [Bool.and_eq_false_iff, decide_eq_false_iff_not] at h
 rw [ax, if_neg (by omega)]
theorem jh {x : bp} (h1 : (decide (1 ≤ x.id) && decide (x.id ≤ 5)) = true) (h2 : (decide (0 ≤ x.ab) && decide (x.ab ≤ 999)) = true) (h3 : (decide (0 ≤ x.aj) && decide (x.aj ≤ 9999)) = true) :
  ax x = if bn x.writes ≠ 0 then bn x.writes else if (decide (0 ≤ x.sure) && decide (x.sure ≤ (x.writes.length : Int))) = true ∧ (decide (0 ≤ x.clean) && decide (x.clean ≤ x.sure)) = true then (if x.up = false ∧ b8 x = false then 1 else 0) else 3 := by
 simp only [Bool.and_eq_true, decide_eq_true_eq] at *
 rw [ax, if_pos (by omega), bn]
 by_cases q1 : 40 < x.writes.length
 ·
  simp only [if_pos q1]; rfl
 simp only [if_neg q1]
 by_cases q2 : ba x.writes ≠ 0
 ·
  simp only [if_pos q2]
 simp only [if_neg q2]
 by_cases q3 : bK [] x.writes = false
 ·
  simp only [if_pos q3]; rfl
 simp only [if_neg q3]
 rw [if_neg (by simp : ¬ ((0 : Int) ≠ 0))]
 have e1 : (0 ≤ x.sure ∧ x.sure ≤ (x.writes.length : Int) ∧ 0 ≤ x.clean ∧ x.clean ≤ x.sure) ↔ ((0 ≤ x.sure ∧ x.sure ≤ (x.writes.length : Int)) ∧ 0 ≤ x.clean ∧ x.clean ≤ x.sure) := by constructor <;> (intro h; omega)
 have e2 : ¬ (x.sure = (x.writes.length : Int) ∧ x.clean = 0 ∧ x.aj = 0) ↔ b8 x = false := by
  unfold b8
  rw [← Bool.not_eq_true]
  simp
 simp only [e1, e2]
end Go.Proofs.YtecagllmonckgaaGreat

namespace Go.Proofs.YtecagllmonckgaaGreat
open Go.RowKit Go.Maps
def tick (s q : Int) : Value := .agg #[.int .i64 s, .int .i64 q]
theorem kc : laidOutB Tryz.prog = true := by kernel_rfl
theorem jk : (117 : TypeId) < Tryz.prog.types.size := of_decide_eq_true (by kernel_rfl)
theorem j0 : (match Tryz.prog.underlying 117 with | some (.array _ _) | some (.struct _) => true | _ => false) = true := by kernel_rfl
theorem ee : Keyed Tryz.prog 117 := Keyed.of_law (deep_law_laid kc (m := 2) (by omega) jk (by kernel_rfl) j0)
theorem eQ {s q : Int} (hs : (Lit.int .i64 s).wf = true) (hq : (Lit.int .i64 q).wf = true) : keyOf Tryz.prog 117 (tick s q) = some (.string (keyBytes [.int .i64 s, .int .i64 q])) := by
 have hk : Tryz.prog.keyType 117 = true := by kernel_rfl
 have hc : Tryz.prog.cellsOf 117 = 2 := by kernel_rfl
 have hc1 : Tryz.prog.cellsOf 2 = 1 := by kernel_rfl
 have hf : (tick s q).formed Tryz.prog 117 = true := by simp [tick, Value.formed, Tryz.underlying117, hc]
 obtain ⟨m, hm⟩ : ∃ m, Tryz.prog.types.size = m + 1 := ⟨_, (Nat.succ_pred_eq_of_pos (Nat.lt_of_le_of_lt (Nat.zero_le _) jk)).symm⟩
 unfold keyOf
 simp only [Tryz.underlying117]
 rw [if_pos (by rw [hk, hf]; rfl), hm]
 unfold Program.keyLits
 simp only [Tryz.underlying117, tick, Value.cells]
 simp [hc, hc1, Program.keyLits, Tryz.underlying2, hs, hq]
theorem kk (w : World) : (zeroValue 2).run Tryz.prog w = .ok (.int .i64 0) w := by kernel_rfl
def ck (w : World) (b n : Nat) (f : Int → Int → Nat) : Prop := ∃ D : DataW Unit, w.ownsMap Tryz.prog 117 (plainElem Tryz.prog 2) b n D ∧
 ∀ s q, (Lit.int .i64 s).wf = true → (Lit.int .i64 q).wf = true → Maps.has D (.string (keyBytes [.int .i64 s, .int .i64 q])) = decide (f s q ≠ 0) ∧ D.atKey (.string (keyBytes [.int .i64 s, .int .i64 q])) (.lit (.int .i64 0)) = .lit (.int .i64 (f s q))
theorem ck.ext {S : Nat → Prop} {w w' : World} {b n : Nat} {f : Int → Int → Nat} (h : ck w b n f) (e : Ext S w w') (hb : ¬ S b) : ck w' b n f := by
 obtain ⟨D, h, r⟩ := h
 have hlt := World.ownsMap.lt h
 obtain ⟨es, clock, hb', r'⟩ := h
 exact ⟨D, ⟨es, clock, (e.block b hlt hb).trans hb', r'⟩, r⟩
theorem ck.lt {w : World} {b n : Nat} {f : Int → Int → Nat} (h : ck w b n f) : b < w.heap.size := by
 obtain ⟨D, h, -⟩ := h
 exact World.ownsMap.lt h
theorem ck.mono {w : World} {b n n' : Nat} {f : Int → Int → Nat} (h : ck w b n f) (hn : n ≤ n') : ck w b n' f := by
 obtain ⟨D, h, r⟩ := h
 exact ⟨D, World.ownsMap.mono h hn, r⟩
theorem ck.congr {w : World} {b n : Nat} {f g : Int → Int → Nat} (h : ck w b n f) (e : ∀ s q, f s q = g s q) : ck w b n g := by
 obtain ⟨D, h, r⟩ := h
 exact ⟨D, h, fun s q hs hq => by rw [← e]; exact r s q hs hq⟩
theorem ck.look {w : World} {b n : Nat} {f : Int → Int → Nat} (h : ck w b n f) {s q : Int} (hs : (Lit.int .i64 s).wf = true) (hq : (Lit.int .i64 q).wf = true) :
  (Instr.lookup 234 (.map (some b)) (tick s q) true).run Tryz.prog w = .ok (.tuple #[.int .i64 (f s q), .bool (decide (f s q ≠ 0))]) w := by
 obtain ⟨D, h, r⟩ := h
 obtain ⟨r1, r2⟩ := r s q hs hq
 obtain ⟨v, ps, hrun, hv⟩ := World.ownsMap.look_ok h ee Tryz.underlying234 (kk w) (plainElem_int Tryz.underlying2 (by decide)) (eQ hs hq)
 rw [r2] at hv
 obtain ⟨c, rfl, hc, -⟩ := plainElem_int_inv Tryz.underlying2 hv
 rw [r1] at hrun
 simp only [Prod.mk.injEq, DataW.lit.injEq, Lit.int.injEq, true_and] at hc
 rw [hc.1]
 exact hrun
theorem ck.put {w : World} {b n : Nat} {f : Int → Int → Nat} (h : ck w b n f) (hn : n < 100000) {s q : Int} (hs : (Lit.int .i64 s).wf = true) (hq : (Lit.int .i64 q).wf = true) {m : Nat} (hm : m ≠ 0) (hw : (Lit.int .i64 (m : Int)).wf = true) :
  ∃ w', (Instr.mapUpdate 234 (.map (some b)) (tick s q) (.int .i64 m)).run Tryz.prog w = .ok () w' ∧ ck w' b (n + 1) (fun s' q' => if s' = s ∧ q' = q then m else f s' q') ∧ Ext (fun c => c = b) w w' := by
 obtain ⟨D, h, r⟩ := h
 obtain ⟨w', h1, h2, h3⟩ := World.ownsMap.store h ee Tryz.underlying234 (by unfold maxLen; omega) (eQ hs hq) (plainElem_int Tryz.underlying2 hw)
 refine ⟨w', h1, ⟨_, h2, fun s' q' hs' hq' => ?_⟩, ?_⟩
 ·
  have hk : WideAt.IsKeyLit (.string (keyBytes [.int .i64 s, .int .i64 q])) := trivial
  by_cases e : s' = s ∧ q' = q
  ·
   obtain ⟨rfl, rfl⟩ := e
   rw [Maps.has_put_same (World.ownsMap.isMap h) hk, Maps.atKey_put_same (World.ownsMap.isMap h) hk]
   simp [hm]
  have hne : Lit.string (keyBytes [.int .i64 s', .int .i64 q']) ≠ Lit.string (keyBytes [.int .i64 s, .int .i64 q]) := by
   intro e2
   have k1 := eQ hs' hq'
   rw [e2] at k1
   have k2 := ee.inj k1 (eQ hs hq)
   simp only [tick, Value.agg.injEq, Array.mk.injEq, List.cons.injEq, Value.int.injEq, true_and, and_true] at k2
   exact e k2
  rw [Maps.has_put_other hne, Maps.atKey_put_other hne]
  simp only [if_neg e]
  exact r s' q' hs' hq'
 have g := h3.grown
 obtain ⟨es, clock, es', clock', hb, rfl⟩ := h3
 exact ⟨rfl, rfl, rfl, by simp [ChangeMaps.setBlock], fun k hk hn => g.block k hk (fun e => hn (by simpa using e))⟩
theorem js (w : World) : ck (w.alloc (.map #[] 0)) w.heap.size 0 (fun _ _ => 0) := ⟨.map [], World.ownsMap_made w _ _ _, fun _ _ _ _ => ⟨rfl, rfl⟩⟩
end Go.Proofs.YtecagllmonckgaaGreat

namespace Go.Proofs.YtecagllmonckgaaGreat
open Go.RowKit
def cG (v : Value) (mb : Nat) (f : Int → Int) : Array Value := #[v, .map (some mb), .int .i64 (f 0), .int .i64 (f 1), .int .i64 (f 2), .int .i64 (f 3), .int .i64 (f 4), .int .i64 (f 5), .int .i64 (f 6), .int .i64 (f 7), .int .i64 (f 8), .int .i64 (f 9)]
theorem dw (v : Value) (mb : Nat) (f : Int → Int) (i : Nat) (h : i < 10) : (cG v mb f)[2 + i]? = some (.int .i64 (f i)) := by
 match i, h with
 | 0, _ => rfl
 | 1, _ => rfl
 | 2, _ => rfl
 | 3, _ => rfl
 | 4, _ => rfl
 | 5, _ => rfl
 | 6, _ => rfl
 | 7, _ => rfl
 | 8, _ => rfl
 | 9, _ => rfl
theorem iH (v : Value) (mb : Nat) (f : Int → Int) (i : Nat) (h : i < 10) (z : Int) : (cG v mb f).setIfInBounds (2 + i) (.int .i64 z) = cG v mb (fun j => if j = i then z else f j) := by
 match i, h with
 | 0, _ => rfl
 | 1, _ => rfl
 | 2, _ => rfl
 | 3, _ => rfl
 | 4, _ => rfl
 | 5, _ => rfl
 | 6, _ => rfl
 | 7, _ => rfl
 | 8, _ => rfl
 | 9, _ => rfl
theorem bw {w w' : World} {b : Nat} (h : w'.heap[b]? = w.heap[b]?) (o : Nat) : w'.frozen? ⟨b, o, none⟩ = w.frozen? ⟨b, o, none⟩ := by
 unfold World.frozen?
 simp only [h]
structure bP (w : World) (p mb N n : Nat) (ws : List ai) (f : Int → Int) (g : Int → Int → Nat) (v : Value) (rows : List (List Value)) (bls : List (List Nat)) : Prop where
 lt : mb < p
 box : al 0 (cG v mb f) 237 w p
 grow : dA ad.ag w (p + 1) 142 v rows ws bls
 sub : ∀ b ∈ bls.flatten, p + 1 ≤ b ∧ ∀ o, w.frozen? ⟨b, o, none⟩ = false
 nd : bls.flatten.Nodup
 seen : ck w mb n g
 mh : ∀ b ∈ bls.flatten, b < N
 jr : ∀ b, v.ownBlock = some b → b < N
 pN : p < N
namespace bP
variable {w w' : World} {p mb N n : Nat} {ws : List ai} {f : Int → Int} {g : Int → Int → Nat} {v : Value} {rows : List (List Value)} {bls : List (List Nat)}
theorem kept (h : bP w p mb N n ws f g v rows bls) {S : Nat → Prop} (e : Ext S w w') (hS : ∀ c, mb ≤ c → c < w.heap.size → ¬ S c) : bP w' p mb N n ws f g v rows bls := by
 have hs : ∀ b ∈ bls.flatten, w'.heap[b]? = w.heap[b]? := fun b hb => e.block b (h.grow.sub_lt b hb) (hS b (by have := (h.sub b hb).1; have := h.lt; omega) (h.grow.sub_lt b hb))
 refine ⟨h.lt, h.box.ext e (hS p (Nat.le_of_lt h.lt) h.box.lt), h.grow.kept ?_ hs, fun b hm => ⟨(h.sub b hm).1, fun o => (bw (hs b hm) o).trans ((h.sub b hm).2 o)⟩, h.nd, h.seen.ext e (hS mb (Nat.le_refl _) h.seen.lt), h.mh, h.jr, h.pN⟩
 obtain ⟨h1, h2⟩ := h.grow.own
 refine ⟨h1, ?_⟩
 rcases h2 with h2 | ⟨gb, cap, cur, hv, hg, hh, r⟩
 ·
  exact Or.inl h2
 exact Or.inr ⟨gb, cap, cur, hv, hg, (e.block gb (lt_of_block hh) (hS gb (by have := h.lt; omega) (lt_of_block hh))).trans hh, r⟩
theorem af (h : bP w p mb N n ws f g v rows bls) (hb : Below w.heap.size w w') : bP w' p mb N n ws f g v rows bls := h.kept (bd hb (fun _ => False)) (fun _ _ _ e => e)
theorem raise (h : bP w p mb N n ws f g v rows bls) {N' : Nat} (hN : N ≤ N') : bP w p mb N' n ws f g v rows bls :=
 ⟨h.lt, h.box, h.grow, h.sub, h.nd, h.seen, fun b hb => Nat.lt_of_lt_of_le (h.mh b hb) hN, fun b hb => Nat.lt_of_lt_of_le (h.jr b hb) hN, Nat.lt_of_lt_of_le h.pN hN⟩
theorem top (h : bP w p mb N n ws f g v rows bls) : bP w p mb w.heap.size n ws f g v rows bls :=
 ⟨h.lt, h.box, h.grow, h.sub, h.nd, h.seen, fun b hb => h.grow.sub_lt b hb, fun b hb => (h.grow.own.lt b hb).2, h.box.lt⟩
theorem added (h : bP w p mb N n ws f g v rows bls) {v' : Value} {rows' : List (List Value)} {ws' : List ai} {bls' : List (List Nat)} (hG : dA ad.ag w' (p + 1) 142 v' rows' ws' bls') (hE : Ext (fun q => v.ownBlock = some q) w w') (hs : ∀ b ∈ bls'.flatten, p + 1 ≤ b ∧ ∀ o, w'.frozen? ⟨b, o, none⟩ = false) (hnd : bls'.flatten.Nodup) :
  bP (w'.setCell ⟨p, 0, none⟩ v') p mb (w'.setCell ⟨p, 0, none⟩ v').heap.size n ws' f g v' rows' bls' := by
 have hb : al 0 (cG v mb f) 237 w' p := h.box.ext hE (fun e => by have := (h.grow.own.lt p e).1; omega)
 have hb2 : al 0 (cG v' mb f) 237 (w'.setCell ⟨p, 0, none⟩ v') p := hb.set 0 v'
 have e2 : Ext (fun c => c = p) w' (w'.setCell ⟨p, 0, none⟩ v') := (Ext.refl (fun c => c = p) w').setCell ⟨p, 0, none⟩ v' rfl
 have hk : ∀ b ∈ bls'.flatten, (w'.setCell ⟨p, 0, none⟩ v').heap[b]? = w'.heap[b]? := fun b hb => e2.block b (hG.sub_lt b hb) (by have := (hs b hb).1; omega)
 have hG2 : dA ad.ag (w'.setCell ⟨p, 0, none⟩ v') (p + 1) 142 v' rows' ws' bls' := hG.kept (dW (a := ⟨p, 0, none⟩) hG.own (by simp) v') hk
 refine ⟨h.lt, hb2, hG2, fun b hm => ⟨(hs b hm).1, fun o => (bw (hk b hm) o).trans ((hs b hm).2 o)⟩, hnd, ?_, fun b hm => hG2.sub_lt b hm, fun b hm => (hG2.own.lt b hm).2, hb2.lt⟩
 exact (h.seen.ext hE (fun e => by have := (h.grow.own.lt mb e).1; have := h.lt; omega)).ext e2 (by have := h.lt; omega)
theorem marked (h : bP w p mb N n ws f g v rows bls) {n' : Nat} {g' : Int → Int → Nat} (hE : Ext (fun c => c = mb) w w') (hT : ck w' mb n' g') : bP w' p mb N n' ws f g' v rows bls := by
 have hs : ∀ b ∈ bls.flatten, w'.heap[b]? = w.heap[b]? := fun b hb => hE.block b (h.grow.sub_lt b hb) (by have := (h.sub b hb).1; have := h.lt; omega)
 refine ⟨h.lt, h.box.ext hE (by have := h.lt; omega), h.grow.kept ?_ hs, fun b hm => ⟨(h.sub b hm).1, fun o => (bw (hs b hm) o).trans ((h.sub b hm).2 o)⟩, h.nd, hT, h.mh, h.jr, h.pN⟩
 obtain ⟨h1, h2⟩ := h.grow.own
 refine ⟨h1, ?_⟩
 rcases h2 with h2 | ⟨gb, cap, cur, hv, hg, hh, r⟩
 ·
  exact Or.inl h2
 exact Or.inr ⟨gb, cap, cur, hv, hg, (hE.block gb (lt_of_block hh) (by have := h.lt; omega)).trans hh, r⟩
theorem ki (h : bP w p mb N n ws f g v rows bls) (i : Nat) (hi : i < 10) (z : Int) : bP (w.setCell ⟨p, 2 + i, none⟩ (.int .i64 z)) p mb N n ws (fun j => if j = i then z else f j) g v rows bls := by
 have e2 : Ext (fun c => c = p) w (w.setCell ⟨p, 2 + i, none⟩ (.int .i64 z)) := (Ext.refl (fun c => c = p) w).setCell ⟨p, 2 + i, none⟩ _ rfl
 have hs : ∀ b ∈ bls.flatten, (w.setCell ⟨p, 2 + i, none⟩ (.int .i64 z)).heap[b]? = w.heap[b]? := fun b hb => e2.block b (h.grow.sub_lt b hb) (by have := (h.sub b hb).1; omega)
 refine ⟨h.lt, ?_, h.grow.kept (dW (a := ⟨p, 2 + i, none⟩) h.grow.own (by simp) _) hs, fun b hm => ⟨(h.sub b hm).1, fun o => (bw (hs b hm) o).trans ((h.sub b hm).2 o)⟩, h.nd, h.seen.ext e2 (by have := h.lt; omega), h.mh, h.jr, h.pN⟩
 rw [← iH v mb f i hi z]
 exact h.box.set (2 + i) _
theorem same (h : bP w p mb N n ws f g v rows bls) {n' : Nat} {f' : Int → Int} {g' : Int → Int → Nat} (hn : n ≤ n') (hf : ∀ j, f j = f' j) (hg : ∀ s q, g s q = g' s q) : bP w p mb N n' ws f' g' v rows bls := by
 rw [funext hf] at h
 exact ⟨h.lt, h.box, h.grow, h.sub, h.nd, (h.seen.mono hn).congr hg, h.mh, h.jr, h.pN⟩
end bP
abbrev Told (w : World) (p mb N : Nat) (ws : List ai) (v : Value) (rows : List (List Value)) (bls : List (List Nat)) : Prop := bP w p mb N ws.length ws (aB ws) (fun s q => bf ws s q) v rows bls
theorem j8 (w : World) : Told ((w.alloc (.map #[] 0)).alloc (.cells (cG (.slice none 0 0) w.heap.size (aB [])) 237)) (w.heap.size + 1) w.heap.size ((w.alloc (.map #[] 0)).alloc (.cells (cG (.slice none 0 0) w.heap.size (aB [])) 237)).heap.size [] (.slice none 0 0) [] [] := by
 have e : (w.alloc (.map #[] 0)).heap.size = w.heap.size + 1 := by simp
 have b : al 0 (cG (.slice none 0 0) w.heap.size (aB [])) 237 ((w.alloc (.map #[] 0)).alloc (.cells (cG (.slice none 0 0) w.heap.size (aB [])) 237)) (w.alloc (.map #[] 0)).heap.size := aK (Nat.zero_le _)
 rw [e] at b
 refine ⟨by omega, b, dA.nil ⟨by simp, Or.inl ⟨rfl, rfl⟩⟩, by simp, by simp, ?_, by simp, by simp [Value.ownBlock], b.lt⟩
 exact (js w).ext (bd ((Below.refl _ _).alloc (Nat.le_refl _) _) (fun _ => False)) (fun h => h)
theorem ej {w w' : World} {o : Obj} {r : Option Nat} (h : (w.alloc o).grownBy w' r) : w.grownBy w' r := iq (World.grownBy_alloc w o r) h
theorem dO : (Tryz.prog.info? 142).map (fun i => (i.zero, i.size, i.bytes)) = some (some (.agg #[.int .i64 0, .int .i64 0, .slice none 0 0, .int .i64 0, .int .i64 0]), 5, 56) := by kernel_rfl
theorem fW {w : World} {row : List Value} {x : ai} {bl : List Nat} (h : ad.ag.br w row x bl) : (∀ u ∈ row, u.oneCell' = true) ∧ row.length = 1 * 5 := by
 obtain ⟨_, _, _, rfl, -⟩ := bO.1 h
 simp [Value.oneCell']
theorem iz {w1 : World} {base : Nat} {v : Value} {rows : List (List Value)} {xs : List ai} {bls : List (List Nat)} (hG : dA ad.ag w1 base 142 v rows xs bls) {row : List Value} {x : ai} {bl : List Nat} (hl : ad.ag.br w1 row x bl) (hbl : ∀ b ∈ bl, v.ownBlock ≠ some b) {ops : Array Oper} {rest : List Oper} {o : Oper} {a : Act} {Q : Exit → Act → World → Prop} (hgd : o.guard = none) (s y : Operand)
  (ho : o.op = .call { callee := .builtin .append, args := #[s, y], argTypes := #[77, 77] }) (hs : a.eval s = v) (hy : a.eval y = .slice (some ⟨w1.heap.size, 0, none⟩) 1 1) (hn : xs.length + 1 ≤ 100000000) (hbase : base ≤ w1.heap.size)
  (h : ∀ g cap w', dA ad.ag w' base 142 (.slice (some ⟨g, 0, none⟩) (xs.length + 1) cap) (rows ++ [row]) (xs ++ [x]) (bls ++ [bl]) → Below base w1 w' → Ext (fun q => v.ownBlock = some q) w1 w' → g < w'.heap.size → w1.heap.size ≤ w'.heap.size → (v.ownBlock = some g ∨ w1.heap.size ≤ g) → wpList Tryz.prog ops Q rest (a.put o.dst (.slice (some ⟨g, 0, none⟩) (xs.length + 1) cap)) w') :
  wpList Tryz.prog ops Q (o :: rest) a (w1.alloc (.cells row.toArray 142)) := by
 obtain ⟨i0, hi0, hz0, hz1, hz2⟩ := info_parts dO
 obtain ⟨h1, hlen⟩ := fW hl
 refine wpList_append_lies _ hgd s y 77 ho base 142 i0 _ 5 56 Tryz.underlying77 hi0 hz0 hz1 hz2 rfl (by omega) v xs.length rows.flatten hs (hG.own.alloc _) ⟨w1.heap.size, 0, none⟩ 1 1 row hy hlen (World.news_of_block (cs := row.toArray) (t := 142) (fr := (0, 0)) (heap_alloc_new w1 _)) h1 (by omega) (by unfold maxLen; omega) (by omega) (by simp; omega) (w1.alloc (.cells row.toArray 142)).heap.size rfl ?_
 intro g cap w' h2 h3 h4 h5
 have hg := ej h3
 have hbw : Below base w1 w' := (Below.refl _ _).grown hg hbase (fun j hj => (hG.own.lt j hj).1)
 have hor : v.ownBlock = some g ∨ w1.heap.size ≤ g := by
  rcases h4 with h4 | h4
  ·
   exact Or.inl h4
  exact Or.inr (by rw [h4]; simp)
 exact h g cap w' (hG.snoc hl hbl h2 hg hor) hbw ⟨hbw.os, hbw.tape, hbw.output, hbw.size, fun k hk hn => hg.block k hk (fun e => hn e.symm)⟩ h5 hbw.size hor
theorem dV {w1 : World} {base : Nat} {v : Value} {rows : List (List Value)} {xs : List ai} {bls : List (List Nat)} (hG : dA ad.ag w1 base 142 v rows xs bls) {row : List Value} {x : ai} {bl : List Nat} (hl : ad.ag.br w1 row x bl) (hbl : ∀ b ∈ bl, v.ownBlock ≠ some b) {ops : Array Oper} {o : Oper} {a : Act} {K : Act → World → Prop} {Q : Exit → Act → World → Prop} {E : Prop} (hgd : o.guard = none) (s y : Operand)
  (ho : o.op = .call { callee := .builtin .append, args := #[s, y], argTypes := #[77, 77] }) (hs : a.eval s = v) (hy : a.eval y = .slice (some ⟨w1.heap.size, 0, none⟩) 1 1) (hn : xs.length + 1 ≤ 100000000) (hbase : base ≤ w1.heap.size)
  (h : ∀ g cap w', dA ad.ag w' base 142 (.slice (some ⟨g, 0, none⟩) (xs.length + 1) cap) (rows ++ [row]) (xs ++ [x]) (bls ++ [bl]) → Below base w1 w' → Ext (fun q => v.ownBlock = some q) w1 w' → g < w'.heap.size → w1.heap.size ≤ w'.heap.size → (v.ownBlock = some g ∨ w1.heap.size ≤ g) → K (a.put o.dst (.slice (some ⟨g, 0, none⟩) (xs.length + 1) cap)) w') :
  if Region.wanted o (yielded ops a.tmps) = true then Oper.wp Tryz.prog o a (w1.alloc (.cells row.toArray 142)) K Q else E := by
 obtain ⟨i0, hi0, hz0, hz1, hz2⟩ := info_parts dO
 obtain ⟨h1, hlen⟩ := fW hl
 refine step_append_lies _ hgd s y 77 ho base 142 i0 _ 5 56 Tryz.underlying77 hi0 hz0 hz1 hz2 rfl (by omega) v xs.length rows.flatten hs (hG.own.alloc _) ⟨w1.heap.size, 0, none⟩ 1 1 row hy hlen (World.news_of_block (cs := row.toArray) (t := 142) (fr := (0, 0)) (heap_alloc_new w1 _)) h1 (by omega) (by unfold maxLen; omega) (by omega) (by simp; omega) (w1.alloc (.cells row.toArray 142)).heap.size rfl ?_
 intro g cap w' h2 h3 h4 h5
 have hg := ej h3
 have hbw : Below base w1 w' := (Below.refl _ _).grown hg hbase (fun j hj => (hG.own.lt j hj).1)
 have hor : v.ownBlock = some g ∨ w1.heap.size ≤ g := by
  rcases h4 with h4 | h4
  ·
   exact Or.inl h4
  exact Or.inr (by rw [h4]; simp)
 exact h g cap w' (hG.snoc hl hbl h2 hg hor) hbw ⟨hbw.os, hbw.tape, hbw.output, hbw.size, fun k hk hn => hg.block k hk (fun e => hn e.symm)⟩ h5 hbw.size hor
end Go.Proofs.YtecagllmonckgaaGreat
