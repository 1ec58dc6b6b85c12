/-
  Texts of this proof in one: WrFault, WrZero, ApplyPlain, SessPlain, LayWritesResult, SeqPlain, LayOnceResult, AppPlain, LayNodeResult, NodePlain, LayChainResult, LayTextResult, ReadPlain, NumPlain, ChainPlain, LayNetResult, SamePlain, NetPlain, NetsPlain, WorldPlain, ToldPlainW, OwnMsg, OwnNetResult, StoreKit, NetKit, OwnWorld, OwnWorldResult, OwnChain, OwnChainResult, ChainKit, WorldOK, WorldSt, ImplNodeId, ImplEpoch, PartReads, ImplChainF, ImplUpTo, NodeEqs, TickMap, ToldPlain, AppInt.
  Their conditions stand in their theorems.
-/
import Derived.Test.YtecagllmonckgaaGreatOv05
import Derived.Test.YtecagllmonckgaaGreatOv00
import Derived.Test.YtecagllmonckgaaGreatOv01
import Derived.WalkKit
import Derived.Test.YtecagllmonckgaaGreatChecked
import Derived.Deep.CutRange
import Derived.Maps.OwnSet
import Derived.DeepKeys4
import Derived.Deep.AppendLies
set_option maxRecDepth 100000
set_option maxHeartbeats 4000000
namespace Go.Proofs.YtecagllmonckgaaGreat
open Go.RowKit
def cc (k : Int) (n : Nat) : Bool := (decide (1 ≤ k) && decide (k ≤ 2)) && !(k == 2 && decide (0 < (n : Int)))
def bM (i s q : Int) : Bool := (decide (1 ≤ i) && decide (i ≤ 999)) && ((decide (1 ≤ s) && decide (s ≤ 9)) && (decide (1 ≤ q) && decide (q ≤ 999)))
def ai (k i : Int) (zs : List Int) (s q : Int) : Int :=
 if cc k zs.length then (if bM i s q then (if k = 1 then aG zs else 0) else 3) else 1
def jB (w : World) (b o : Nat) (k i : Int) (v : Value) (s q : Int) : Prop :=
 w.cell? ⟨b, o, none⟩ = some (.int .i64 k) ∧ w.cell? ⟨b, o + 1, none⟩ = some (.int .i64 i) ∧ w.cell? ⟨b, o + 2, none⟩ = some v ∧ w.cell? ⟨b, o + 3, none⟩ = some (.int .i64 s) ∧ w.cell? ⟨b, o + 4, none⟩ = some (.int .i64 q)
theorem gx (b o : Nat) (k i : Int) (v : Value) (s q : Int) (zs : List Int) (w : World) (hc : jB w b o k i v s q) (h : bh w v zs) :
  Calls Tryz.prog 250 #[.pointer (some ⟨b, o, none⟩)] w fun e w' => e = .returned (.int .i64 (ai k i zs s q)) ∧ w' = w := by
 have hv : ∃ a c, v = .slice a zs.length c := by obtain ⟨a, c, h, -⟩ := h; exact ⟨a, c, h⟩
 obtain ⟨av, cv, rfl⟩ := hv
 obtain ⟨c0, c1, c2, c3, c4⟩ := hc
 have HH := yh h
 clear h
 generalize hF : ai k i zs s q = F
 have HF := yh hF
 clear hF
 cases d1 : (decide (1 ≤ k) && decide (k ≤ 2)) with
 | false =>
  have hE : F = 1 := by rw [← uh HF, ai, cc, d1]; rfl
  subst hE
  go_enter Tryz.func250, Tryz.ntmps250
  go_wp2_with fail
  refine (cF k 1 2 _).mono ?_
  rintro e w1 ⟨rfl, rfl⟩
  rw [d1]
  go_wp2_with fail
  go_ret
  exact ⟨rfl, rfl⟩
 | true =>
  have hk : k = 1 ∨ k = 2 := by
   simp only [Bool.and_eq_true, decide_eq_true_eq] at d1
   omega
  clear d1
  rcases hk with rfl | rfl
  ·
   have hK : cc 1 zs.length = true := rfl
   cases dI : (decide (1 ≤ i) && decide (i ≤ 999)) with
   | false =>
    have hE : F = 3 := by rw [← uh HF, ai, hK, if_pos rfl, bM, dI]; rfl
    subst hE
    go_enter Tryz.func250, Tryz.ntmps250
    go_wp2_with fail
    refine (cF 1 1 2 _).mono ?_
    rintro e w1 ⟨rfl, rfl⟩
    go_wp2_with fail
    refine (kK i _).mono ?_
    rintro e w1 ⟨rfl, rfl⟩
    rw [dI]
    go_wp2_with fail
    go_ret
    exact ⟨rfl, rfl⟩
   | true =>
    cases dS : (decide (1 ≤ s) && decide (s ≤ 9)) with
    | false =>
     have hE : F = 3 := by rw [← uh HF, ai, hK, if_pos rfl, bM, dI, dS]; rfl
     subst hE
     go_enter Tryz.func250, Tryz.ntmps250
     go_wp2_with fail
     refine (cF 1 1 2 _).mono ?_
     rintro e w1 ⟨rfl, rfl⟩
     go_wp2_with fail
     refine (kK i _).mono ?_
     rintro e w1 ⟨rfl, rfl⟩
     rw [dI]
     go_wp2_with fail
     refine (cK s _).mono ?_
     rintro e w1 ⟨rfl, rfl⟩
     rw [dS]
     go_wp2_with fail
     go_ret
     exact ⟨rfl, rfl⟩
    | true =>
     cases dQ : (decide (1 ≤ q) && decide (q ≤ 999)) with
     | false =>
      have hE : F = 3 := by rw [← uh HF, ai, hK, if_pos rfl, bM, dI, dS, dQ]; rfl
      subst hE
      go_enter Tryz.func250, Tryz.ntmps250
      go_wp2_with fail
      refine (cF 1 1 2 _).mono ?_
      rintro e w1 ⟨rfl, rfl⟩
      go_wp2_with fail
      refine (kK i _).mono ?_
      rintro e w1 ⟨rfl, rfl⟩
      rw [dI]
      go_wp2_with fail
      refine (cK s _).mono ?_
      rintro e w1 ⟨rfl, rfl⟩
      rw [dS]
      go_wp2_with fail
      refine (cF q 1 999 _).mono ?_
      rintro e w1 ⟨rfl, rfl⟩
      rw [dQ]
      go_wp2_with fail
      go_ret
      exact ⟨rfl, rfl⟩
     | true =>
      have hE : F = aG zs := by rw [← uh HF, ai, hK, if_pos rfl, bM, dI, dS, dQ]; rfl
      subst hE
      go_enter Tryz.func250, Tryz.ntmps250
      go_wp2_with fail
      refine (cF 1 1 2 _).mono ?_
      rintro e w1 ⟨rfl, rfl⟩
      go_wp2_with fail
      refine (kK i _).mono ?_
      rintro e w1 ⟨rfl, rfl⟩
      rw [dI]
      go_wp2_with fail
      refine (cK s _).mono ?_
      rintro e w1 ⟨rfl, rfl⟩
      rw [dS]
      go_wp2_with fail
      refine (cF q 1 999 _).mono ?_
      rintro e w1 ⟨rfl, rfl⟩
      rw [dQ]
      go_wp2_with fail
      refine (ix _ zs _ (uh HH)).mono ?_
      rintro e w1 ⟨rfl, rfl⟩
      go_wp2_with fail
      go_ret
      exact ⟨rfl, rfl⟩
  by_cases hz : zs.length = 0
  ·
   obtain rfl : zs = [] := List.eq_nil_of_length_eq_zero hz
   have hK : cc 2 ([] : List Int).length = true := rfl
   simp only [List.length_nil] at c2 hK
   clear hz
   cases dI : (decide (1 ≤ i) && decide (i ≤ 999)) with
   | false =>
    have hE : F = 3 := by rw [← uh HF, ai, show cc 2 ([] : List Int).length = true from rfl, if_pos rfl, bM, dI]; rfl
    subst hE
    go_enter Tryz.func250, Tryz.ntmps250
    go_wp2_with fail
    refine (cF 2 1 2 _).mono ?_
    rintro e w1 ⟨rfl, rfl⟩
    go_wp2_with fail
    refine (kK i _).mono ?_
    rintro e w1 ⟨rfl, rfl⟩
    rw [dI]
    go_wp2_with fail
    go_ret
    exact ⟨rfl, rfl⟩
   | true =>
    cases dS : (decide (1 ≤ s) && decide (s ≤ 9)) with
    | false =>
     have hE : F = 3 := by rw [← uh HF, ai, show cc 2 ([] : List Int).length = true from rfl, if_pos rfl, bM, dI, dS]; rfl
     subst hE
     go_enter Tryz.func250, Tryz.ntmps250
     go_wp2_with fail
     refine (cF 2 1 2 _).mono ?_
     rintro e w1 ⟨rfl, rfl⟩
     go_wp2_with fail
     refine (kK i _).mono ?_
     rintro e w1 ⟨rfl, rfl⟩
     rw [dI]
     go_wp2_with fail
     refine (cK s _).mono ?_
     rintro e w1 ⟨rfl, rfl⟩
     rw [dS]
     go_wp2_with fail
     go_ret
     exact ⟨rfl, rfl⟩
    | true =>
     cases dQ : (decide (1 ≤ q) && decide (q ≤ 999)) with
     | false =>
      have hE : F = 3 := by rw [← uh HF, ai, show cc 2 ([] : List Int).length = true from rfl, if_pos rfl, bM, dI, dS, dQ]; rfl
      subst hE
      go_enter Tryz.func250, Tryz.ntmps250
      go_wp2_with fail
      refine (cF 2 1 2 _).mono ?_
      rintro e w1 ⟨rfl, rfl⟩
      go_wp2_with fail
      refine (kK i _).mono ?_
      rintro e w1 ⟨rfl, rfl⟩
      rw [dI]
      go_wp2_with fail
      refine (cK s _).mono ?_
      rintro e w1 ⟨rfl, rfl⟩
      rw [dS]
      go_wp2_with fail
      refine (cF q 1 999 _).mono ?_
      rintro e w1 ⟨rfl, rfl⟩
      rw [dQ]
      go_wp2_with fail
      go_ret
      exact ⟨rfl, rfl⟩
     | true =>
      have hE : F = 0 := by rw [← uh HF, ai, show cc 2 ([] : List Int).length = true from rfl, if_pos rfl, bM, dI, dS, dQ]; rfl
      subst hE
      go_enter Tryz.func250, Tryz.ntmps250
      go_wp2_with fail
      refine (cF 2 1 2 _).mono ?_
      rintro e w1 ⟨rfl, rfl⟩
      go_wp2_with fail
      refine (kK i _).mono ?_
      rintro e w1 ⟨rfl, rfl⟩
      rw [dI]
      go_wp2_with fail
      refine (cK s _).mono ?_
      rintro e w1 ⟨rfl, rfl⟩
      rw [dS]
      go_wp2_with fail
      refine (cF q 1 999 _).mono ?_
      rintro e w1 ⟨rfl, rfl⟩
      rw [dQ]
      go_wp2_with fail
      go_ret
      exact ⟨rfl, rfl⟩
  have hE : F = 1 := by
   have : cc 2 zs.length = false := by simp [cc]; omega
   rw [← uh HF, ai, this]; rfl
  subst hE
  obtain ⟨m, hm⟩ : ∃ m, zs.length = m + 1 := ⟨zs.length - 1, by omega⟩
  rw [hm] at c2
  clear hz hm
  go_enter Tryz.func250, Tryz.ntmps250
  go_wp2_with fail
  refine (cF 2 1 2 _).mono ?_
  rintro e w1 ⟨rfl, rfl⟩
  go_wp2_with fail
  go_ret
  exact ⟨rfl, rfl⟩
theorem cP {k i s q : Int} {zs : List Int} (h : ai k i zs s q = 0) : (1 ≤ i ∧ i ≤ 999) ∧ (1 ≤ s ∧ s ≤ 9) ∧ (1 ≤ q ∧ q ≤ 999) ∧ ((k = 1 ∧ aG zs = 0) ∨ (k = 2 ∧ zs = [])) := by
 unfold ai at h
 split at h
 ·
  next hk =>
  split at h
  ·
   next hb =>
   simp only [cc, Bool.and_eq_true, decide_eq_true_eq, Bool.not_eq_true', Bool.and_eq_false_iff] at hk
   simp only [bM, Bool.and_eq_true, decide_eq_true_eq] at hb
   refine ⟨hb.1, hb.2.1, hb.2.2, ?_⟩
   by_cases h1 : k = 1
   ·
    rw [if_pos h1] at h
    exact Or.inl ⟨h1, h⟩
   have h2 : k = 2 := by omega
   refine Or.inr ⟨h2, ?_⟩
   rcases hk.2 with h3 | h3
   ·
    simp [h2] at h3
   simp at h3
   exact h3
  omega
 omega
def wF (x : aj) : Int := ai x.kind x.id x.vec x.aa x.seq
def bb : List aj → Int
 | [] => 0
 | x :: xs => if wF x = 0 then bb xs else wF x
def aS (ws : List aj) : Int := if 200 < ws.length then 2 else bb ws
theorem dL (ws : List aj) (k : Nat) (h : k < ws.length) (hz : ∀ j (hj : j < ws.length), j < k → wF ws[j] = 0) (hn : wF ws[k] ≠ 0) : bb ws = wF ws[k] := by
 induction ws generalizing k with
 | nil => simp at h
 | cons x xs ih =>
  match k with
  | 0 => rw [bb, if_neg (by simpa using hn)]; rfl
  | k + 1 =>
   have h0 : wF x = 0 := hz 0 (by simp) (by omega)
   rw [bb, if_pos h0]
   exact ih k (by simpa using h) (fun j hj hjk => hz (j + 1) (by simpa using hj) (by omega)) (by simpa using hn)
theorem dw (ws : List aj) (hz : ∀ j (hj : j < ws.length), wF ws[j] = 0) : bb ws = 0 := by
 induction ws with
 | nil => rfl
 | cons x xs ih =>
  have h0 : wF x = 0 := hz 0 (by simp)
  rw [bb, if_pos h0]
  exact ih fun j hj => hz (j + 1) (by simpa using hj)
theorem gh {ws : List aj} (h : bb ws = 0) : ∀ x ∈ ws, wF x = 0 := by
 induction ws with
 | nil => simp
 | cons x xs ih =>
  rw [bb] at h
  by_cases h0 : wF x = 0
  ·
   rw [if_pos h0] at h
   intro y hy
   rcases List.mem_cons.1 hy with rfl | hy
   ·
    exact h0
   exact ih h y hy
  rw [if_neg h0] at h; exact absurd h h0
theorem fJ {ws : List aj} (h : aS ws = 0) : ws.length ≤ 200 ∧ ∀ x ∈ ws, wF x = 0 := by
 unfold aS at h
 by_cases hn : 200 < ws.length
 ·
  rw [if_pos hn] at h; cases h
 rw [if_neg hn] at h; exact ⟨by omega, gh h⟩
theorem iG (x : aj) : 0 ≤ wF x ∧ wF x ≤ 3 := by
 have hv := fg x.vec
 unfold wF ai
 split
 ·
  split
  ·
   split
   ·
    exact hv
   decide
  decide
 decide
theorem gy (ws : List aj) : 0 ≤ bb ws ∧ bb ws ≤ 3 := by
 induction ws with
 | nil => decide
 | cons x xs ih =>
  rw [bb]
  split
  ·
   exact ih
  exact iG x
def az (ws : List aj) (s : Int) : Int := ws.foldl (fun n x => if x.aa = s then max n x.seq else n) 0
def cj (s q : Int) : Nat → List aj → Nat
 | _, [] => 0
 | n, x :: xs => if x.aa = s ∧ x.seq = q then n + 1 else cj s q (n + 1) xs
def cD (ws : List aj) (s q : Int) : Nat := cj s q 0 ws
def bE : List aj → List aj → Bool
 | _, [] => true
 | pre, x :: xs => decide (az pre x.aa < x.seq) && bE (pre ++ [x]) xs
theorem eB (ws : List aj) (x : aj) (s : Int) : az (ws ++ [x]) s = if x.aa = s then max (az ws s) x.seq else az ws s := by
 simp [az]
theorem eD (ws : List aj) (k : Nat) (h : k < ws.length) (s : Int) : az (ws.take (k + 1)) s = if ws[k].aa = s then max (az (ws.take k) s) ws[k].seq else az (ws.take k) s := by
 rw [List.take_succ_eq_append_getElem h, eB]
theorem dp (s q : Int) (x : aj) : ∀ (ws : List aj) (n : Nat), cj s q n (ws ++ [x]) = if cj s q n ws = 0 then (if x.aa = s ∧ x.seq = q then n + ws.length + 1 else 0) else cj s q n ws
 | [], n => by simp [cj]
 | y :: ws, n => by
  rw [List.cons_append, cj, cj]
  by_cases h : y.aa = s ∧ y.seq = q
  ·
   rw [if_pos h, if_pos h, if_neg (by omega)]
  rw [if_neg h, if_neg h, dp s q x ws (n + 1)]
  simp only [List.length_cons]
  rw [show n + 1 + ws.length + 1 = n + (ws.length + 1) + 1 by omega]
theorem eR (ws : List aj) (x : aj) (s q : Int) : cD (ws ++ [x]) s q = if cD ws s q = 0 then (if x.aa = s ∧ x.seq = q then ws.length + 1 else 0) else cD ws s q := by
 have := dp s q x ws 0
 rw [Nat.zero_add] at this
 exact this
theorem eP : ∀ (ws pre : List aj) (k : Nat) (h : k < ws.length), (ws[k]).seq ≤ az (pre ++ ws.take k) (ws[k]).aa → bE pre ws = false
 | [], _, _, h, _ => by simp at h
 | x :: xs, pre, 0, _, hk => by
  have : ¬ (az pre x.aa < x.seq) := by simpa using hk
  simp [bE, this]
 | x :: xs, pre, k + 1, h, hk => by
  rw [bE, eP xs (pre ++ [x]) k (by simpa using h) (by simpa using hk), Bool.and_false]
theorem dP : ∀ (ws pre : List aj), (∀ k (h : k < ws.length), az (pre ++ ws.take k) (ws[k]).aa < (ws[k]).seq) → bE pre ws = true
 | [], _, _ => rfl
 | x :: xs, pre, h => by
  have h0 := h 0 (by simp)
  rw [bE, dP xs (pre ++ [x]) fun k hk => by have := h (k + 1) (by simpa using hk); simpa using this]
  simpa using h0
def eg (ws : List aj) : Bool := decide (aS ws = 0) && bE [] ws
theorem iv {x : aj} (h : wF x = 0) : 1 ≤ x.aa ∧ x.aa ≤ 9 ∧ 1 ≤ x.seq ∧ x.seq ≤ 999 := by
 obtain ⟨-, h1, h2, -⟩ := cP h
 exact ⟨h1.1, h1.2, h2.1, h2.2⟩
def aB (x : bw) : Int :=
 if 1 ≤ x.id ∧ x.id ≤ 5 ∧ 0 ≤ x.ab ∧ x.ab ≤ 999 ∧ 0 ≤ x.ar ∧ x.ar ≤ 9999 then
  if 40 < x.writes.length then 2
  else if bb x.writes ≠ 0 then bb x.writes
  else if bE [] x.writes = false then 6
  else if 0 ≤ x.sure ∧ x.sure ≤ x.writes.length ∧ 0 ≤ x.clean ∧ x.clean ≤ x.sure then
   if x.up = false ∧ ¬ (x.sure = x.writes.length ∧ x.clean = 0 ∧ x.ar = 0) then 1 else 0
  else 3
 else 3
theorem eK (x : bw) : 0 ≤ aB x ∧ aB x ≤ 6 := by
 have := gy x.writes
 unfold aB
 split
 ·
  split
  ·
   omega
  split
  ·
   omega
  split
  ·
   omega
  split
  ·
   split <;> omega
  omega
 omega
end Go.Proofs.YtecagllmonckgaaGreat

namespace Go.Proofs.YtecagllmonckgaaGreat
end Go.Proofs.YtecagllmonckgaaGreat

namespace Go.Proofs.YtecagllmonckgaaGreat
end Go.Proofs.YtecagllmonckgaaGreat

namespace Go.Proofs.YtecagllmonckgaaGreat
open Go.RowKit
def kW (ids : List Int) (id : Int) : Nat := ids.findIdx (· == id)
def aR (ids : List Int) (id : Int) : Int := if kW ids id < ids.length then (kW ids id : Int) else -1
def dk : List Int → List Int → Int
 | _, [] => 0
 | pre, z :: zs => if 1 ≤ z ∧ z ≤ 5 then (if z ∈ pre then 6 else dk (pre ++ [z]) zs) else 3
def au (x : a8) : Int :=
 if 1 ≤ x.ab ∧ x.ab ≤ 999 then (if 1 ≤ x.ids.length ∧ x.ids.length ≤ 5 then dk [] x.ids else 2) else 3
theorem iV (ids : List Int) (id : Int) : -1 ≤ aR ids id ∧ aR ids id < ids.length + 1 := by
 unfold aR
 split <;> omega
theorem eT (ids : List Int) (id : Int) : aR ids id < 0 ↔ id ∉ ids := by
 unfold aR kW
 have h := List.findIdx_lt_length (p := fun z => z == id) (xs := ids)
 constructor
 ·
  intro h1 hm
  rw [if_pos (h.2 ⟨id, hm, by simp⟩)] at h1
  omega
 intro h1
 rw [if_neg]
 ·
  omega
 intro h2
 obtain ⟨z, hz, e⟩ := h.1 h2
 rw [beq_iff_eq] at e
 rw [e] at hz
 exact h1 hz
theorem dN {ids : List Int} {id : Int} {k : Nat} (hk : k < ids.length) (h : ids[k] = id) (hb : ∀ j (hj : j < k), ids[j] ≠ id) : aR ids id = (k : Int) := by
 have e : kW ids id = k := by
  unfold kW
  rw [List.findIdx_eq hk]
  exact ⟨by simpa using h, fun j hj => by simpa using hb j hj⟩
 rw [aR, e, if_pos hk]
theorem eb {ids : List Int} {id : Int} (hb : ∀ j (hj : j < ids.length), ids[j] ≠ id) : aR ids id = -1 := by
 have h1 : aR ids id < 0 := by
  rw [eT]
  intro hm
  obtain ⟨j, hj, e⟩ := List.getElem_of_mem hm
  exact hb j hj e
 have := iV ids id
 omega
theorem iB {ids : List Int} {id : Int} (h : 0 ≤ aR ids id) : ∃ (k : Nat) (hk : k < ids.length), aR ids id = (k : Int) ∧ ids[k] = id ∧ ∀ j (hj : j < k), ids[j] ≠ id := by
 have hl : kW ids id < ids.length := by
  unfold aR at h
  split at h
  ·
   assumption
  omega
 refine ⟨kW ids id, hl, by rw [aR, if_pos hl], ?_, fun j hj => ?_⟩
 ·
  have := List.findIdx_getElem (xs := ids) (p := fun z => z == id) (w := hl)
  exact beq_iff_eq.1 this
 have := List.not_of_lt_findIdx (xs := ids) (p := fun z => z == id) hj
 simpa using this
theorem fG : ∀ (zs pre : List Int), 0 ≤ dk pre zs ∧ dk pre zs ≤ 6
 | [], _ => by simp [dk]
 | z :: zs, pre => by
  rw [dk]
  split
  ·
   split
   ·
    omega
   exact fG zs _
  omega
theorem et (x : a8) : 0 ≤ au x ∧ au x ≤ 6 := by
 have := fG x.ids []
 unfold au
 split
 ·
  split <;> omega
 omega
theorem fA (ids : List Int) (k : Nat) (hk : k < ids.length) : dk (ids.take k) (ids.drop k) = if 1 ≤ ids[k] ∧ ids[k] ≤ 5 then (if ids[k] ∈ ids.take k then 6 else dk (ids.take (k + 1)) (ids.drop (k + 1))) else 3 := by
 conv => lhs; rw [List.drop_eq_getElem_cons hk, dk]
 rw [List.take_succ_eq_append_getElem hk]
theorem gL (ids : List Int) : dk (ids.take ids.length) (ids.drop ids.length) = 0 := by simp [dk]
theorem gq {ids : List Int} {k : Nat} (hk : k < ids.length) : (aR ids ids[k] = (k : Int)) ↔ ids[k] ∉ ids.take k := by
 constructor
 ·
  intro h hm
  obtain ⟨j, hj, e⟩ := List.getElem_of_mem hm
  rw [List.length_take] at hj
  rw [List.getElem_take] at e
  obtain ⟨m, hm1, h1, h2, h3⟩ := iB (ids := ids) (id := ids[k]) (by omega)
  obtain rfl : m = k := by omega
  exact h3 j (by omega) e
 intro h
 refine dN hk rfl fun j hj e => h ?_
 rw [List.mem_iff_getElem]
 exact ⟨j, by rw [List.length_take]; omega, by rw [List.getElem_take]; exact e⟩
def bT (x y : aj) : Bool := x.kind == y.kind && (x.id == y.id && (x.aa == y.aa && (x.seq == y.seq && decide (x.vec = y.vec))))
def iq (y : aj) : Prop := y.kind = 0 ∧ y.id = 0 ∧ y.aa = 0 ∧ y.seq = 0 ∧ y.vec.length = 0
instance (y : aj) : Decidable (iq y) := by unfold iq; infer_instance
def ak (x : bk) : Int :=
 if ¬ (1 ≤ x.kind ∧ x.kind ≤ 2) ∨ x.src = x.dst ∨ (x.kind = 2 ∧ ¬ iq x.write) then 1
 else if ¬ (1 ≤ x.ab ∧ x.ab ≤ 999) ∨ ¬ (1 ≤ x.src ∧ x.src ≤ 5) ∨ ¬ (1 ≤ x.dst ∧ x.dst ≤ 5) ∨ ¬ (0 ≤ x.index ∧ x.index ≤ 40) ∨ (x.kind ≠ 2 ∧ x.index = 0) then 3
 else if x.kind = 2 then 0 else wF x.write
def bc : List bk → Int
 | [] => 0
 | x :: xs => if ak x = 0 then bc xs else ak x
def aE (xs : List bk) : Int := if 40 < xs.length then 2 else bc xs
theorem ft (x : bk) : 0 ≤ ak x ∧ ak x ≤ 6 := by
 have := iG x.write
 unfold ak
 split
 ·
  omega
 split
 ·
  omega
 split
 ·
  omega
 omega
theorem dn : ∀ xs : List bk, 0 ≤ bc xs ∧ bc xs ≤ 6
 | [] => by simp [bc]
 | x :: xs => by
  rw [bc]
  split
  ·
   exact dn xs
  exact ft x
theorem fh (xs : List bk) : 0 ≤ aE xs ∧ aE xs ≤ 6 := by
 unfold aE
 split
 ·
  omega
 exact dn xs
theorem dA : ∀ {xs : List bk}, (∀ x ∈ xs, ak x = 0) → bc xs = 0
 | [], _ => rfl
 | x :: xs, h => by
  rw [bc, if_pos (h x (by simp))]
  exact dA fun y hy => h y (List.mem_cons_of_mem _ hy)
theorem en : ∀ {xs : List bk} {k : Nat} (hk : k < xs.length), (∀ j (hj : j < k), ak xs[j] = 0) → ak xs[k] ≠ 0 → bc xs = ak xs[k]
 | x :: xs, 0, hk, _, h => by
  have h1 : ak x ≠ 0 := h
  rw [bc, if_neg h1]
  rfl
 | x :: xs, k + 1, hk, hb, h => by
  have h1 : ak x = 0 := hb 0 (by omega)
  rw [bc, if_pos h1]
  exact en (xs := xs) (k := k) (by simpa using hk) (fun j hj => hb (j + 1) (by omega)) h
def bu (x : aX) (id : Int) : Bool := decide (1 ≤ id) && decide (id ≤ (x.nodes.length : Int))
def bf (c : a8) : Nat → List bw → Int
 | _, [] => 0
 | i, n :: ns =>
  if aB n ≠ 0 then aB n
  else if n.id ≠ (i : Int) + 1 then 1
  else if c.ab < n.ab ∨ (n.up = true ∧ 0 ≤ aR c.ids n.id ∧ n.ab ≠ c.ab) then 7
  else bf c (i + 1) ns
def aO (x : aX) : Int :=
 if bf x.chain 0 x.nodes ≠ 0 then bf x.chain 0 x.nodes
 else if x.chain.ids.all (bu x) then 0 else 4
def cT (x : aX) (e : bx) : Bool :=
 (decide (1 ≤ e.kind) && decide (e.kind ≤ 3)) && ((decide (1 ≤ e.start) && decide (e.start ≤ x.events)) && ((e.fin == 0 || (decide (e.start ≤ e.fin) && decide (e.fin ≤ x.events))) && (decide (0 ≤ e.place) && decide (e.place ≤ 40))))
def ax (x : aX) : Int :=
 if ¬ (0 ≤ x.now ∧ x.now ≤ 9000) ∨ ¬ (0 ≤ x.events ∧ x.events ≤ 9999) then 3
 else if au x.chain ≠ 0 then au x.chain
 else if x.nodes.length < 1 ∨ 5 < x.nodes.length then 2
 else if aO x ≠ 0 then aO x
 else if aE x.msgs ≠ 0 then aE x.msgs
 else if 60 < x.af.length then 2
 else if x.af.all (cT x) then 0 else 3
theorem ea (c : a8) : ∀ (i : Nat) (ns : List bw), 0 ≤ bf c i ns ∧ bf c i ns ≤ 10
 | _, [] => by simp [bf]
 | i, n :: ns => by
  have h1 := eK n
  have h2 := ea c (i + 1) ns
  rw [bf]
  split
  ·
   omega
  split
  ·
   omega
  split
  ·
   omega
  exact h2
theorem ew (x : aX) : 0 ≤ aO x ∧ aO x ≤ 10 := by
 have := ea x.chain 0 x.nodes
 unfold aO
 split
 ·
  omega
 split <;> omega
theorem eu (x : aX) (hc : 0 ≤ au x.chain ∧ au x.chain ≤ 6) : 0 ≤ ax x ∧ ax x ≤ 10 := by
 have h1 := ew x
 have h2 := fh x.msgs
 unfold ax
 repeat' split
 all_goals omega
theorem cH {w : World} {b off cap k : Nat} {zs : List Int} (h : (ad.sl ad.int).Reads w [.slice (some ⟨b, off, none⟩) zs.length cap] zs) (hk : k < zs.length) : w.cell? ⟨b, off + k, none⟩ = some (.int .i64 zs[k]) := by
 obtain ⟨bl, h⟩ := h
 obtain ⟨ao, cp, e, -, -, h⟩ := ad.cq.1 h
 simp only [Value.slice.injEq] at e
 obtain ⟨rfl, -, rfl⟩ := e
 rcases h with ⟨rfl, -⟩ | ⟨b', off', e2, -, -, hj⟩
 ·
  simp at hk
 simp only [Option.some.injEq, Addr.mk.injEq, and_true] at e2
 obtain ⟨rfl, rfl⟩ := e2
 rw [hj k hk]
 simp [List.getD, hk]
theorem de {w : World} {c n : Int} {lo hi : Nat} (hc : (Lit.int .i64 c).wf = true) (hn : (Lit.int .i64 n).wf = true) : ad.bJ.aU w [.int .i64 c, .int .i64 n] ⟨c, n⟩ lo hi :=
 ⟨[], ⟨bF.2 ⟨rfl, rfl, hc, hn⟩, by simp, by simp⟩, by simp⟩
structure iD (x : aX) : Prop where
 now : 0 ≤ x.now ∧ x.now ≤ 9000
 events : 0 ≤ x.events ∧ x.events ≤ 9999
 chain : au x.chain = 0
 some : 1 ≤ x.nodes.length ∧ x.nodes.length ≤ 5
 nodes : ∀ k (h : k < x.nodes.length), aB x.nodes[k] = 0 ∧ x.nodes[k].id = (k : Int) + 1 ∧ x.nodes[k].ab ≤ x.chain.ab
 ids : ∀ z ∈ x.chain.ids, bu x z = true
 net : aE x.msgs = 0
 few : x.af.length ≤ 60
 told : ∀ e ∈ x.af, cT x e = true
theorem ec (c : a8) : ∀ (ns : List bw) (i : Nat), bf c i ns = 0 → ∀ k (h : k < ns.length), aB ns[k] = 0 ∧ ns[k].id = ((i + k : Nat) : Int) + 1 ∧ ns[k].ab ≤ c.ab
 | [], _, _, k, h => by simp at h
 | n :: ns, i, h0, k, h => by
  rw [bf] at h0
  split at h0
  ·
   rename_i q; exact absurd h0 q
  rename_i q1
  split at h0
  ·
   simp at h0
  rename_i q2
  split at h0
  ·
   simp at h0
  rename_i q3
  cases k with
  | zero => exact ⟨by simpa using q1, by simpa using q2, by
    have : ¬ c.ab < n.ab := fun q => q3 (Or.inl q)
    simp
    omega⟩
  | succ k =>
   have := ec c ns (i + 1) h0 k (by simpa using h)
   obtain ⟨a1, a2, a3⟩ := this
   refine ⟨by simpa using a1, ?_, by simpa using a3⟩
   simp only [List.getElem_cons_succ]
   rw [a2]
   omega
theorem cR {x : aX} (h : ax x = 0) : iD x := by
 unfold ax at h
 split at h
 ·
  simp at h
 rename_i h1
 split at h
 ·
  rename_i q; exact absurd h q
 rename_i h2
 split at h
 ·
  simp at h
 rename_i h3
 split at h
 ·
  rename_i q; exact absurd h q
 rename_i h4
 split at h
 ·
  rename_i q; exact absurd h q
 rename_i h5
 split at h
 ·
  simp at h
 rename_i h6
 split at h
 ·
  rename_i h7
  have h4' : aO x = 0 := by simpa using h4
  unfold aO at h4'
  have h8 : bf x.chain 0 x.nodes = 0 ∧ x.chain.ids.all (bu x) = true := by
   split at h4'
   ·
    rename_i q; exact absurd h4' q
   rename_i q
   split at h4'
   ·
    rename_i q2; exact ⟨by simpa using q, q2⟩
   simp at h4'
  refine ⟨by omega, by omega, by simpa using h2, by omega, fun k hk => ?_, fun z hz => List.all_eq_true.1 h8.2 z hz, by simpa using h5, by omega, fun e he => List.all_eq_true.1 h7 e he⟩
  have := ec x.chain x.nodes 0 h8.1 k hk
  simpa using this
 simp at h
theorem bB (n : Int) (w : World) :
  Calls Tryz.prog 225 #[.int .i64 n] w fun e w' => e = .returned (.bool (decide (1 ≤ n) && decide (n ≤ 5))) ∧ w' = w := by
 by_cases h1 : 1 ≤ n
 ·
  have d1 : decide (1 ≤ n) = true := by simpa using h1
  rw [d1]
  cases d2 : decide (n ≤ 5) <;>
  ·
   go_enter Tryz.func225, Tryz.ntmps225
   go_wp2_with fail
   go_ret
   exact ⟨rfl, rfl⟩
 have d1 : decide (1 ≤ n) = false := by simpa using h1
 rw [d1]
 go_enter Tryz.func225, Tryz.ntmps225
 go_wp2_with fail
 go_ret
 exact ⟨rfl, rfl⟩
theorem bD (n : Int) (w : World) :
  Calls Tryz.prog 177 #[.int .i64 n] w fun e w' => e = .returned (.bool (decide (1 ≤ n) && decide (n ≤ 999))) ∧ w' = w := by
 by_cases h1 : 1 ≤ n
 ·
  have d1 : decide (1 ≤ n) = true := by simpa using h1
  rw [d1]
  cases d2 : decide (n ≤ 999) <;>
  ·
   go_enter Tryz.func177, Tryz.ntmps177
   go_wp2_with fail
   go_ret
   exact ⟨rfl, rfl⟩
 have d1 : decide (1 ≤ n) = false := by simpa using h1
 rw [d1]
 go_enter Tryz.func177, Tryz.ntmps177
 go_wp2_with fail
 go_ret
 exact ⟨rfl, rfl⟩
theorem ia {w : World} {b off cap : Nat} {zs : List Int} (h : (ad.sl ad.int).Reads w [.slice (some ⟨b, off, none⟩) zs.length cap] zs) (m n c : Nat) (hm : m + n ≤ zs.length) (hc : n ≤ c) :
  (ad.sl ad.int).Reads w [.slice (some ⟨b, off + m, none⟩) n c] ((zs.drop m).take n) := by
 have hi := ad.bp h
 have hbig := h.cS
 obtain ⟨ao, cp, e, hwf, hcs⟩ := hi
 have hlen : ((zs.drop m).take n).length = n := by simp; omega
 refine ad.eF ?_ (fun ao' cap' e' => ?_) (by rw [hlen]; omega)
 ·
  refine ⟨_, c, by rw [hlen], fun z hz => hwf z (List.mem_of_mem_drop (List.mem_of_mem_take hz)), fun hp => ⟨b, off + m, rfl, fun j hj => ?_⟩⟩
  rw [hlen] at hp hj
  obtain ⟨b', off', hao, hc1⟩ := hcs (by omega)
  simp only [Value.slice.injEq] at e
  obtain ⟨rfl, -, -⟩ := e
  simp only [Option.some.injEq, Addr.mk.injEq, and_true] at hao
  obtain ⟨rfl, rfl⟩ := hao
  rw [Nat.add_assoc, hc1 (m + j) (by omega)]
  simp only [List.getD]
  rw [List.getElem?_take, if_pos hj, List.getElem?_drop]
 simp only [Value.slice.injEq] at e'
 rw [hlen]
 omega
theorem ib {w : World} {ao : Option Addr} {n cap : Nat} {zs : List Int} (h : (ad.sl ad.int).Reads w [.slice ao n cap] zs) (k : Nat) (hk : k ≤ zs.length) :
  (ad.sl ad.int).Reads w [.slice ao k cap] (zs.take k) := by
 have hc := h.cap
 by_cases h0 : k = 0
 ·
  subst h0
  rw [List.take_zero]
  exact ad.eF ⟨ao, cap, rfl, by simp, fun hp => by simp at hp⟩ (fun _ _ _ => by simp) (by simp)
 have hi := ad.bp h
 obtain ⟨ao', cp, e, hwf, hcs⟩ := hi
 obtain ⟨b', off', hao, hc1⟩ := hcs (by omega)
 simp only [Value.slice.injEq] at e
 obtain ⟨rfl, rfl, rfl⟩ := e
 subst hao
 have := ia h 0 k cap (by omega) (by omega)
 simpa using this
theorem dy (n : Int) (w : World) :
  Calls Tryz.prog 179 #[.int .i64 n] w fun e w' => e = .returned (.bool (decide (1 ≤ n) && decide (n ≤ 5))) ∧ w' = w := by
 by_cases h1 : 1 ≤ n
 ·
  have d1 : decide (1 ≤ n) = true := by simpa using h1
  rw [d1]
  cases d2 : decide (n ≤ 5) <;>
  ·
   go_enter Tryz.func179, Tryz.ntmps179
   go_wp2_with fail
   go_ret
   exact ⟨rfl, rfl⟩
 have d1 : decide (1 ≤ n) = false := by simpa using h1
 rw [d1]
 go_enter Tryz.func179, Tryz.ntmps179
 go_wp2_with fail
 go_ret
 exact ⟨rfl, rfl⟩
theorem lg (v : Value) (ids : List Int) (id : Int) (w : World) (R : (ad.sl ad.int).Reads w [v] ids) :
  Calls Tryz.prog 256 #[v, .int .i64 id] w fun e w' => e = .returned (.int .i64 (aR ids id)) ∧ w' = w := by
 obtain ⟨ao, cap, rfl⟩ := aC R
 have hbig := R.cS
 have H := yh R
 clear R
 go_enter Tryz.func256, Tryz.ntmps256
 go_wp2_with fail
 go_loop [8] (fun i => ∃ k : Nat, k ≤ ids.length ∧ i = .int .i64 k ∧ (∀ j (hj : j < ids.length), j < k → ids[j] ≠ id)) (fun i => ids.length - (intOf i).toNat)
 case atStart => exact ⟨0, Nat.zero_le _, rfl, fun j _ h => by omega⟩
 case round =>
  obtain ⟨k, hk, rfl, hz⟩ := hrel
  by_cases hlt : k < ids.length
  ·
   obtain ⟨b2, off, rfl, -⟩ := ad.aJ (uh H) (by omega)
   have c1 := cH (uh H) hlt
   cases hq : (id == ids[k])
   ·
    have HZ : Hid (∀ j (hj : j < ids.length), j < k + 1 → ids[j] ≠ id) := fun j hj hjk => by
     by_cases h2 : j < k
     ·
      exact hz j hj h2
     obtain rfl : j = k := by omega
     intro h3
     rw [h3] at hq
     simp at hq
    clear hz
    generalize ids[k] = z at *
    go_wp2_with fail
    go_round
    case rel => exact ⟨k + 1, by omega, by go_num, uh HZ⟩
    case measure => simp [intOf]; omega
   have HP := yh (dN hlt (beq_iff_eq.1 hq).symm (fun j hj => hz j (by omega) hj))
   clear hz
   generalize ids[k] = z at *
   go_wp2_with fail
   go_ret
   exact ⟨by rw [uh HP]; rfl, rfl⟩
  obtain rfl : k = ids.length := by omega
  have HP := yh (eb (id := id) (fun j hj => hz j hj hj))
  clear hz
  go_wp2_with fail
  go_ret
  exact ⟨by rw [uh HP]; rfl, rfl⟩
theorem fw (v : Value) (ids : List Int) (id : Int) (w : World) (R : (ad.sl ad.int).Reads w [v] ids) :
  Calls Tryz.prog 226 #[v, .int .i64 id] w fun e w' => e = .returned (.bool (decide (0 ≤ aR ids id))) ∧ w' = w := by
 have HL := yh (lg v ids id w R)
 obtain ⟨ao, cap, rfl⟩ := aC R
 generalize aR ids id = n at *
 clear R
 go_enter Tryz.func226, Tryz.ntmps226
 go_wp2_with fail
 refine (uh HL).mono ?_
 rintro e w1 ⟨rfl, h1⟩
 subst w1
 clear HL
 go_wp2_with fail
 go_ret
 exact ⟨rfl, rfl⟩
def bV (ids : List Int) : Int := if 1 ≤ ids.length ∧ ids.length ≤ 5 then dk [] ids else 2
theorem eH {ids : List Int} (h : (decide (1 ≤ (ids.length : Int)) && decide ((ids.length : Int) ≤ 5)) = false) : bV ids = 2 := by
 rw [bV, if_neg]
 intro h2
 rw [decide_eq_true (by omega), decide_eq_true (by omega)] at h
 simp at h
theorem fp {ids : List Int} (h : (decide (1 ≤ (ids.length : Int)) && decide ((ids.length : Int) ≤ 5)) = true) : bV ids = dk (ids.take 0) (ids.drop 0) := by
 rw [bV, if_pos]
 ·
  simp
 simp at h
 omega
theorem jg (ids : List Int) (z : Int) : decide (0 ≤ aR ids z) = true ↔ z ∈ ids := by
 have h := eT ids z
 rw [decide_eq_true_iff]
 constructor
 ·
  intro h1
  refine Decidable.byContradiction fun h2 => ?_
  have := h.2 h2
  omega
 intro h1
 refine Decidable.byContradiction fun h2 => ?_
 exact h.1 (by omega) h1
theorem iR (v : Value) (ids : List Int) (w : World) (R : (ad.sl ad.int).Reads w [v] ids) :
  Calls Tryz.prog 178 #[v] w fun e w' => e = .returned (.int .i64 (bV ids)) ∧ w' = w := by
 obtain ⟨ao, cap, rfl⟩ := aC R
 have hbig := R.cS
 have hcap := R.cap
 have H := yh R
 clear R
 go_enter Tryz.func178, Tryz.ntmps178
 go_wp2_with fail
 refine (dy (ids.length : Int) w).mono ?_
 rintro e w1 ⟨rfl, h1⟩
 subst w1
 cases d1 : (decide (1 ≤ (ids.length : Int)) && decide ((ids.length : Int) ≤ 5))
 ·
  have HF := yh (eH d1)
  clear d1
  go_wp2_with fail
  go_ret
  exact ⟨by rw [uh HF]; rfl, rfl⟩
 have HF := yh (fp d1)
 clear d1
 go_wp2_with fail
 go_loop [11] (fun i => ∃ k : Nat, k ≤ ids.length ∧ i = .int .i64 k ∧ bV ids = dk (ids.take k) (ids.drop k)) (fun i => ids.length - (intOf i).toNat)
 case atStart => exact ⟨0, Nat.zero_le _, rfl, uh HF⟩
 case round =>
  obtain ⟨k, hk, rfl, hz⟩ := hrel
  clear HF
  by_cases hlt : k < ids.length
  ·
   rw [fA ids k hlt] at hz
   obtain ⟨b2, off, rfl, -⟩ := ad.aJ (uh H) (by omega)
   have c1 := cH (uh H) hlt
   have HC := yh (fw (.slice (some ⟨b2, off, none⟩) k cap) (ids.take k) ids[k] w (ib (uh H) k (by omega)))
   have HM := yh (jg (ids.take k) ids[k])
   have hdl : decide ((k : Int) < (ids.length : Int)) = true := by simp; omega
   have HZ := yh hz
   have hkc : k ≤ cap := by omega
   clear hz
   generalize ids[k] = z at *
   generalize ids.take k = zk at *
   go_wp2_with fail
   refine (bB z w).mono ?_
   rintro e w1 ⟨rfl, h1⟩
   subst w1
   cases d2 : (decide (1 ≤ z) && decide (z ≤ 5))
   ·
    have hz := uh HZ
    rw [if_neg (by intro h; simp at d2; omega)] at hz
    have HF := yh hz
    clear hz HZ d2
    go_wp2_with fail
    go_ret
    exact ⟨by rw [uh HF]; rfl, rfl⟩
   have hz := uh HZ
   rw [if_pos (by simpa using d2)] at hz
   clear HZ d2
   have HZ := yh hz
   clear hz
   go_wp2_with fail
   refine (uh HC).mono ?_
   rintro e w1 ⟨rfl, h1⟩
   subst w1
   cases d3 : decide (0 ≤ aR zk z)
   ·
    have hz := uh HZ
    rw [if_neg (fun hm => by rw [(uh HM).2 hm] at d3; simp at d3)] at hz
    have HF := yh hz
    clear hz HZ d3 HM HC
    go_wp2_with fail
    go_round
    case rel => exact ⟨k + 1, by omega, by go_num, uh HF⟩
    case measure => simp [intOf]; omega
   have hz := uh HZ
   rw [if_pos ((uh HM).1 d3)] at hz
   have HF := yh hz
   clear hz HZ d3 HM HC
   go_wp2_with fail
   go_ret
   exact ⟨by rw [uh HF]; rfl, rfl⟩
  obtain rfl : k = ids.length := by omega
  rw [gL] at hz
  have HF := yh hz
  clear hz
  go_wp2_with fail
  go_ret
  exact ⟨by rw [uh HF]; rfl, rfl⟩
theorem kj {x : a8} (h : (decide (1 ≤ x.ab) && decide (x.ab ≤ 999)) = false) : au x = 3 := by rw [au, if_neg (by simp at h; omega)]
theorem kr {x : a8} (h : (decide (1 ≤ x.ab) && decide (x.ab ≤ 999)) = true) : au x = bV x.ids := by rw [au, if_pos (by simp at h; omega), bV]
theorem fc (cs : List Value) (x : a8) (w : World) (h : ad.aV.Reads w cs x) :
  Calls Tryz.prog 114 #[.agg cs.toArray] w fun e w' => e = .returned (.int .i64 (au x)) ∧ Below w.heap.size w w' := by
 obtain ⟨a, d, rfl, R⟩ := br h
 have nb : Below w.heap.size w (w.alloc (.cells #[.int .i64 x.ab, .slice a x.ids.length d] 32)) := (Below.refl _ _).alloc (Nat.le_refl _) _
 have HR := yh (R.ae nb)
 have HB := yh nb
 have HX : Hid (aA 0 #[.int .i64 x.ab, .slice a x.ids.length d] 32 (w.alloc (.cells #[.int .i64 x.ab, .slice a x.ids.length d] 32)) w.heap.size) := aM (Nat.zero_le _)
 clear R h nb
 go_enter Tryz.func114, Tryz.ntmps114
 go_upto_region 1 with fail
 generalize w.alloc (.cells #[.int .i64 x.ab, .slice a x.ids.length d] 32) = W at *
 have z0 : W.cell? ⟨w.heap.size, 0, none⟩ = some (.int .i64 x.ab) := (uh HX).at 0 _ rfl
 have z1 : W.cell? ⟨w.heap.size, 1, none⟩ = some (.slice a x.ids.length d) := (uh HX).at 1 _ rfl
 clear HX
 cases d1 : (decide (1 ≤ x.ab) && decide (x.ab ≤ 999))
 ·
  have HF := yh (kj d1)
  have L := yh (bD x.ab W)
  rw [d1] at L
  clear d1
  go_wp2_with fail
  refine (uh L).mono ?_
  rintro e w1 ⟨rfl, h1⟩
  subst w1
  clear L
  go_wp2_with fail
  go_ret
  exact ⟨by rw [uh HF]; rfl, uh HB⟩
 have HF := yh (kr d1)
 have L := yh (bD x.ab W)
 rw [d1] at L
 clear d1
 go_wp2_with fail
 refine (uh L).mono ?_
 rintro e w1 ⟨rfl, h1⟩
 subst w1
 clear L
 have L := yh (iR _ x.ids _ (uh HR))
 go_wp2_with fail
 refine (uh L).mono ?_
 rintro e w1 ⟨rfl, h1⟩
 subst w1
 clear L
 go_wp2_with fail
 go_ret
 exact ⟨by rw [uh HF]; rfl, uh HB⟩
theorem cn (n m : Int) (w : World) :
  Calls Tryz.prog 113 #[.int .i64 n, .int .i64 m] w fun e w' => e = .returned (.bool (decide (0 ≤ n) && decide (n ≤ m))) ∧ w' = w := by
 by_cases h1 : 0 ≤ n
 ·
  have d1 : decide (0 ≤ n) = true := by simpa using h1
  rw [d1]
  cases d2 : decide (n ≤ m) <;>
  ·
   go_enter Tryz.func113, Tryz.ntmps113
   go_wp2_with fail
   go_ret
   exact ⟨rfl, rfl⟩
 have d1 : decide (0 ≤ n) = false := by simpa using h1
 rw [d1]
 go_enter Tryz.func113, Tryz.ntmps113
 go_wp2_with fail
 go_ret
 exact ⟨rfl, rfl⟩
def bm (ws : List aj) : Int := if 40 < ws.length then 2 else if bb ws ≠ 0 then bb ws else if bE [] ws = false then 6 else 0
def bP (x : bw) : Bool := (x.sure == (x.writes.length : Int)) && (x.clean == 0 && x.ar == 0)
theorem kH {x : bw} (h : (decide (1 ≤ x.id) && decide (x.id ≤ 5)) = false) : aB x = 3 := by
 simp only [Bool.and_eq_false_iff, decide_eq_false_iff_not] at h
 rw [aB, if_neg (by omega)]
theorem gw {x : bw} (h : (decide (0 ≤ x.ab) && decide (x.ab ≤ 999)) = false) : aB x = 3 := by
 simp only [Bool.and_eq_false_iff, decide_eq_false_iff_not] at h
 rw [aB, if_neg (by omega)]
theorem gz {x : bw} (h : (decide (0 ≤ x.ar) && decide (x.ar ≤ 9999)) = false) : aB x = 3 := by
 simp only [Bool.and_eq_false_iff, decide_eq_false_iff_not] at h
 rw [aB, if_neg (by omega)]
theorem iK {x : bw} (h1 : (decide (1 ≤ x.id) && decide (x.id ≤ 5)) = true) (h2 : (decide (0 ≤ x.ab) && decide (x.ab ≤ 999)) = true) (h3 : (decide (0 ≤ x.ar) && decide (x.ar ≤ 9999)) = true) :
  aB x = if bm x.writes ≠ 0 then bm x.writes else if (decide (0 ≤ x.sure) && decide (x.sure ≤ (x.writes.length : Int))) = true ∧ (decide (0 ≤ x.clean) && decide (x.clean ≤ x.sure)) = true then (if x.up = false ∧ bP x = false then 1 else 0) else 3 := by
 simp only [Bool.and_eq_true, decide_eq_true_eq] at *
 rw [aB, if_pos (by omega), bm]
 by_cases q1 : 40 < x.writes.length
 ·
  simp only [if_pos q1]; rfl
 simp only [if_neg q1]
 by_cases q2 : bb x.writes ≠ 0
 ·
  simp only [if_pos q2]
 simp only [if_neg q2]
 by_cases q3 : bE [] x.writes = false
 ·
  simp only [if_pos q3]; rfl
 simp only [if_neg q3]
 rw [if_neg (by simp : ¬ ((0 : Int) ≠ 0))]
 have e1 : (0 ≤ x.sure ∧ x.sure ≤ (x.writes.length : Int) ∧ 0 ≤ x.clean ∧ x.clean ≤ x.sure) ↔ ((0 ≤ x.sure ∧ x.sure ≤ (x.writes.length : Int)) ∧ 0 ≤ x.clean ∧ x.clean ≤ x.sure) := by constructor <;> (intro h; omega)
 have e2 : ¬ (x.sure = (x.writes.length : Int) ∧ x.clean = 0 ∧ x.ar = 0) ↔ bP x = false := by
  unfold bP
  rw [← Bool.not_eq_true]
  simp
 simp only [e1, e2]
end Go.Proofs.YtecagllmonckgaaGreat

namespace Go.Proofs.YtecagllmonckgaaGreat
open Go.RowKit Go.Maps
def tick (s q : Int) : Value := .agg #[.int .i64 s, .int .i64 q]
theorem j0 : laidOutB Tryz.prog = true := by kernel_rfl
theorem iF : (117 : TypeId) < Tryz.prog.types.size := of_decide_eq_true (by kernel_rfl)
theorem jQ : (match Tryz.prog.underlying 117 with | some (.array _ _) | some (.struct _) => true | _ => false) = true := by kernel_rfl
theorem dM : Keyed Tryz.prog 117 := Keyed.of_law (deep_law_laid j0 (m := 2) (by omega) iF (by kernel_rfl) jQ)
theorem eA {s q : Int} (hs : (Lit.int .i64 s).wf = true) (hq : (Lit.int .i64 q).wf = true) : keyOf Tryz.prog 117 (tick s q) = some (.string (keyBytes [.int .i64 s, .int .i64 q])) := by
 have hk : Tryz.prog.keyType 117 = true := by kernel_rfl
 have hc : Tryz.prog.cellsOf 117 = 2 := by kernel_rfl
 have hc1 : Tryz.prog.cellsOf 2 = 1 := by kernel_rfl
 have hf : (tick s q).formed Tryz.prog 117 = true := by simp [tick, Value.formed, Tryz.underlying117, hc]
 obtain ⟨m, hm⟩ : ∃ m, Tryz.prog.types.size = m + 1 := ⟨_, (Nat.succ_pred_eq_of_pos (Nat.lt_of_le_of_lt (Nat.zero_le _) iF)).symm⟩
 unfold keyOf
 simp only [Tryz.underlying117]
 rw [if_pos (by rw [hk, hf]; rfl), hm]
 unfold Program.keyLits
 simp only [Tryz.underlying117, tick, Value.cells]
 simp [hc, hc1, Program.keyLits, Tryz.underlying2, hs, hq]
theorem j7 (w : World) : (zeroValue 2).run Tryz.prog w = .ok (.int .i64 0) w := by kernel_rfl
def ca (w : World) (b n : Nat) (f : Int → Int → Nat) : Prop := ∃ D : DataW Unit, w.ownsMap Tryz.prog 117 (plainElem Tryz.prog 2) b n D ∧
 ∀ s q, (Lit.int .i64 s).wf = true → (Lit.int .i64 q).wf = true → Maps.has D (.string (keyBytes [.int .i64 s, .int .i64 q])) = decide (f s q ≠ 0) ∧ D.atKey (.string (keyBytes [.int .i64 s, .int .i64 q])) (.lit (.int .i64 0)) = .lit (.int .i64 (f s q))
theorem ca.ext {S : Nat → Prop} {w w' : World} {b n : Nat} {f : Int → Int → Nat} (h : ca w b n f) (e : Ext S w w') (hb : ¬ S b) : ca w' b n f := by
 obtain ⟨D, h, r⟩ := h
 have hlt := World.ownsMap.lt h
 obtain ⟨es, clock, hb', r'⟩ := h
 exact ⟨D, ⟨es, clock, (e.block b hlt hb).trans hb', r'⟩, r⟩
theorem ca.lt {w : World} {b n : Nat} {f : Int → Int → Nat} (h : ca w b n f) : b < w.heap.size := by
 obtain ⟨D, h, -⟩ := h
 exact World.ownsMap.lt h
theorem ca.mono {w : World} {b n n' : Nat} {f : Int → Int → Nat} (h : ca w b n f) (hn : n ≤ n') : ca w b n' f := by
 obtain ⟨D, h, r⟩ := h
 exact ⟨D, World.ownsMap.mono h hn, r⟩
theorem ca.congr {w : World} {b n : Nat} {f g : Int → Int → Nat} (h : ca w b n f) (e : ∀ s q, f s q = g s q) : ca w b n g := by
 obtain ⟨D, h, r⟩ := h
 exact ⟨D, h, fun s q hs hq => by rw [← e]; exact r s q hs hq⟩
theorem ca.look {w : World} {b n : Nat} {f : Int → Int → Nat} (h : ca w b n f) {s q : Int} (hs : (Lit.int .i64 s).wf = true) (hq : (Lit.int .i64 q).wf = true) :
  (Instr.lookup 234 (.map (some b)) (tick s q) true).run Tryz.prog w = .ok (.tuple #[.int .i64 (f s q), .bool (decide (f s q ≠ 0))]) w := by
 obtain ⟨D, h, r⟩ := h
 obtain ⟨r1, r2⟩ := r s q hs hq
 obtain ⟨v, ps, hrun, hv⟩ := World.ownsMap.look_ok h dM Tryz.underlying234 (j7 w) (plainElem_int Tryz.underlying2 (by decide)) (eA hs hq)
 rw [r2] at hv
 obtain ⟨c, rfl, hc, -⟩ := plainElem_int_inv Tryz.underlying2 hv
 rw [r1] at hrun
 simp only [Prod.mk.injEq, DataW.lit.injEq, Lit.int.injEq, true_and] at hc
 rw [hc.1]
 exact hrun
theorem ca.put {w : World} {b n : Nat} {f : Int → Int → Nat} (h : ca w b n f) (hn : n < 100000) {s q : Int} (hs : (Lit.int .i64 s).wf = true) (hq : (Lit.int .i64 q).wf = true) {m : Nat} (hm : m ≠ 0) (hw : (Lit.int .i64 (m : Int)).wf = true) :
  ∃ w', (Instr.mapUpdate 234 (.map (some b)) (tick s q) (.int .i64 m)).run Tryz.prog w = .ok () w' ∧ ca w' b (n + 1) (fun s' q' => if s' = s ∧ q' = q then m else f s' q') ∧ Ext (fun c => c = b) w w' := by
 obtain ⟨D, h, r⟩ := h
 obtain ⟨w', h1, h2, h3⟩ := World.ownsMap.store h dM Tryz.underlying234 (by unfold maxLen; omega) (eA hs hq) (plainElem_int Tryz.underlying2 hw)
 refine ⟨w', h1, ⟨_, h2, fun s' q' hs' hq' => ?_⟩, ?_⟩
 ·
  have hk : WideAt.IsKeyLit (.string (keyBytes [.int .i64 s, .int .i64 q])) := trivial
  by_cases e : s' = s ∧ q' = q
  ·
   obtain ⟨rfl, rfl⟩ := e
   rw [Maps.has_put_same (World.ownsMap.isMap h) hk, Maps.atKey_put_same (World.ownsMap.isMap h) hk]
   simp [hm]
  have hne : Lit.string (keyBytes [.int .i64 s', .int .i64 q']) ≠ Lit.string (keyBytes [.int .i64 s, .int .i64 q]) := by
   intro e2
   have k1 := eA hs' hq'
   rw [e2] at k1
   have k2 := dM.inj k1 (eA hs hq)
   simp only [tick, Value.agg.injEq, Array.mk.injEq, List.cons.injEq, Value.int.injEq, true_and, and_true] at k2
   exact e k2
  rw [Maps.has_put_other hne, Maps.atKey_put_other hne]
  simp only [if_neg e]
  exact r s' q' hs' hq'
 have g := h3.grown
 obtain ⟨es, clock, es', clock', hb, rfl⟩ := h3
 exact ⟨rfl, rfl, rfl, by simp [ChangeMaps.setBlock], fun k hk hn => g.block k hk (fun e => hn (by simpa using e))⟩
theorem iX (w : World) : ca (w.alloc (.map #[] 0)) w.heap.size 0 (fun _ _ => 0) := ⟨.map [], World.ownsMap_made w _ _ _, fun _ _ _ _ => ⟨rfl, rfl⟩⟩
end Go.Proofs.YtecagllmonckgaaGreat

namespace Go.Proofs.YtecagllmonckgaaGreat
open Go.RowKit
def cy (v : Value) (mb : Nat) (f : Int → Int) : Array Value := #[v, .map (some mb), .int .i64 (f 0), .int .i64 (f 1), .int .i64 (f 2), .int .i64 (f 3), .int .i64 (f 4), .int .i64 (f 5), .int .i64 (f 6), .int .i64 (f 7), .int .i64 (f 8), .int .i64 (f 9)]
theorem db (v : Value) (mb : Nat) (f : Int → Int) (i : Nat) (h : i < 10) : (cy v mb f)[2 + i]? = some (.int .i64 (f i)) := by
 match i, h with
 | 0, _ => rfl
 | 1, _ => rfl
 | 2, _ => rfl
 | 3, _ => rfl
 | 4, _ => rfl
 | 5, _ => rfl
 | 6, _ => rfl
 | 7, _ => rfl
 | 8, _ => rfl
 | 9, _ => rfl
theorem iz (v : Value) (mb : Nat) (f : Int → Int) (i : Nat) (h : i < 10) (z : Int) : (cy v mb f).setIfInBounds (2 + i) (.int .i64 z) = cy v mb (fun j => if j = i then z else f j) := by
 match i, h with
 | 0, _ => rfl
 | 1, _ => rfl
 | 2, _ => rfl
 | 3, _ => rfl
 | 4, _ => rfl
 | 5, _ => rfl
 | 6, _ => rfl
 | 7, _ => rfl
 | 8, _ => rfl
 | 9, _ => rfl
theorem bq {w w' : World} {b : Nat} (h : w'.heap[b]? = w.heap[b]?) (o : Nat) : w'.frozen? ⟨b, o, none⟩ = w.frozen? ⟨b, o, none⟩ := by
 unfold World.frozen?
 simp only [h]
structure bG (w : World) (p mb N n : Nat) (ws : List aj) (f : Int → Int) (g : Int → Int → Nat) (v : Value) (rows : List (List Value)) (bls : List (List Nat)) : Prop where
 lt : mb < p
 box : aA 0 (cy v mb f) 237 w p
 grow : dj ad.ag w (p + 1) 142 v rows ws bls
 sub : ∀ b ∈ bls.flatten, p + 1 ≤ b ∧ ∀ o, w.frozen? ⟨b, o, none⟩ = false
 nd : bls.flatten.Nodup
 seen : ca w mb n g
 ln : ∀ b ∈ bls.flatten, b < N
 iP : ∀ b, v.ownBlock = some b → b < N
 pN : p < N
namespace bG
variable {w w' : World} {p mb N n : Nat} {ws : List aj} {f : Int → Int} {g : Int → Int → Nat} {v : Value} {rows : List (List Value)} {bls : List (List Nat)}
theorem kept (h : bG w p mb N n ws f g v rows bls) {S : Nat → Prop} (e : Ext S w w') (hS : ∀ c, mb ≤ c → c < w.heap.size → ¬ S c) : bG w' p mb N n ws f g v rows bls := by
 have hs : ∀ b ∈ bls.flatten, w'.heap[b]? = w.heap[b]? := fun b hb => e.block b (h.grow.sub_lt b hb) (hS b (by have := (h.sub b hb).1; have := h.lt; omega) (h.grow.sub_lt b hb))
 refine ⟨h.lt, h.box.ext e (hS p (Nat.le_of_lt h.lt) h.box.lt), h.grow.kept ?_ hs, fun b hm => ⟨(h.sub b hm).1, fun o => (bq (hs b hm) o).trans ((h.sub b hm).2 o)⟩, h.nd, h.seen.ext e (hS mb (Nat.le_refl _) h.seen.lt), h.ln, h.iP, h.pN⟩
 obtain ⟨h1, h2⟩ := h.grow.own
 refine ⟨h1, ?_⟩
 rcases h2 with h2 | ⟨gb, cap, cur, hv, hg, hh, r⟩
 ·
  exact Or.inl h2
 exact Or.inr ⟨gb, cap, cur, hv, hg, (e.block gb (lt_of_block hh) (hS gb (by have := h.lt; omega) (lt_of_block hh))).trans hh, r⟩
theorem ae (h : bG w p mb N n ws f g v rows bls) (hb : Below w.heap.size w w') : bG w' p mb N n ws f g v rows bls := h.kept (bj hb (fun _ => False)) (fun _ _ _ e => e)
theorem raise (h : bG w p mb N n ws f g v rows bls) {N' : Nat} (hN : N ≤ N') : bG w p mb N' n ws f g v rows bls :=
 ⟨h.lt, h.box, h.grow, h.sub, h.nd, h.seen, fun b hb => Nat.lt_of_lt_of_le (h.ln b hb) hN, fun b hb => Nat.lt_of_lt_of_le (h.iP b hb) hN, Nat.lt_of_lt_of_le h.pN hN⟩
theorem top (h : bG w p mb N n ws f g v rows bls) : bG w p mb w.heap.size n ws f g v rows bls :=
 ⟨h.lt, h.box, h.grow, h.sub, h.nd, h.seen, fun b hb => h.grow.sub_lt b hb, fun b hb => (h.grow.own.lt b hb).2, h.box.lt⟩
theorem added (h : bG w p mb N n ws f g v rows bls) {v' : Value} {rows' : List (List Value)} {ws' : List aj} {bls' : List (List Nat)} (hG : dj ad.ag w' (p + 1) 142 v' rows' ws' bls') (hE : Ext (fun q => v.ownBlock = some q) w w') (hs : ∀ b ∈ bls'.flatten, p + 1 ≤ b ∧ ∀ o, w'.frozen? ⟨b, o, none⟩ = false) (hnd : bls'.flatten.Nodup) :
  bG (w'.setCell ⟨p, 0, none⟩ v') p mb (w'.setCell ⟨p, 0, none⟩ v').heap.size n ws' f g v' rows' bls' := by
 have hb : aA 0 (cy v mb f) 237 w' p := h.box.ext hE (fun e => by have := (h.grow.own.lt p e).1; omega)
 have hb2 : aA 0 (cy v' mb f) 237 (w'.setCell ⟨p, 0, none⟩ v') p := hb.set 0 v'
 have e2 : Ext (fun c => c = p) w' (w'.setCell ⟨p, 0, none⟩ v') := (Ext.refl (fun c => c = p) w').setCell ⟨p, 0, none⟩ v' rfl
 have hk : ∀ b ∈ bls'.flatten, (w'.setCell ⟨p, 0, none⟩ v').heap[b]? = w'.heap[b]? := fun b hb => e2.block b (hG.sub_lt b hb) (by have := (hs b hb).1; omega)
 have hG2 : dj ad.ag (w'.setCell ⟨p, 0, none⟩ v') (p + 1) 142 v' rows' ws' bls' := hG.kept (dJ (a := ⟨p, 0, none⟩) hG.own (by simp) v') hk
 refine ⟨h.lt, hb2, hG2, fun b hm => ⟨(hs b hm).1, fun o => (bq (hk b hm) o).trans ((hs b hm).2 o)⟩, hnd, ?_, fun b hm => hG2.sub_lt b hm, fun b hm => (hG2.own.lt b hm).2, hb2.lt⟩
 exact (h.seen.ext hE (fun e => by have := (h.grow.own.lt mb e).1; have := h.lt; omega)).ext e2 (by have := h.lt; omega)
theorem marked (h : bG w p mb N n ws f g v rows bls) {n' : Nat} {g' : Int → Int → Nat} (hE : Ext (fun c => c = mb) w w') (hT : ca w' mb n' g') : bG w' p mb N n' ws f g' v rows bls := by
 have hs : ∀ b ∈ bls.flatten, w'.heap[b]? = w.heap[b]? := fun b hb => hE.block b (h.grow.sub_lt b hb) (by have := (h.sub b hb).1; have := h.lt; omega)
 refine ⟨h.lt, h.box.ext hE (by have := h.lt; omega), h.grow.kept ?_ hs, fun b hm => ⟨(h.sub b hm).1, fun o => (bq (hs b hm) o).trans ((h.sub b hm).2 o)⟩, h.nd, hT, h.ln, h.iP, h.pN⟩
 obtain ⟨h1, h2⟩ := h.grow.own
 refine ⟨h1, ?_⟩
 rcases h2 with h2 | ⟨gb, cap, cur, hv, hg, hh, r⟩
 ·
  exact Or.inl h2
 exact Or.inr ⟨gb, cap, cur, hv, hg, (hE.block gb (lt_of_block hh) (by have := h.lt; omega)).trans hh, r⟩
theorem jU (h : bG w p mb N n ws f g v rows bls) (i : Nat) (hi : i < 10) (z : Int) : bG (w.setCell ⟨p, 2 + i, none⟩ (.int .i64 z)) p mb N n ws (fun j => if j = i then z else f j) g v rows bls := by
 have e2 : Ext (fun c => c = p) w (w.setCell ⟨p, 2 + i, none⟩ (.int .i64 z)) := (Ext.refl (fun c => c = p) w).setCell ⟨p, 2 + i, none⟩ _ rfl
 have hs : ∀ b ∈ bls.flatten, (w.setCell ⟨p, 2 + i, none⟩ (.int .i64 z)).heap[b]? = w.heap[b]? := fun b hb => e2.block b (h.grow.sub_lt b hb) (by have := (h.sub b hb).1; omega)
 refine ⟨h.lt, ?_, h.grow.kept (dJ (a := ⟨p, 2 + i, none⟩) h.grow.own (by simp) _) hs, fun b hm => ⟨(h.sub b hm).1, fun o => (bq (hs b hm) o).trans ((h.sub b hm).2 o)⟩, h.nd, h.seen.ext e2 (by have := h.lt; omega), h.ln, h.iP, h.pN⟩
 rw [← iz v mb f i hi z]
 exact h.box.set (2 + i) _
theorem same (h : bG w p mb N n ws f g v rows bls) {n' : Nat} {f' : Int → Int} {g' : Int → Int → Nat} (hn : n ≤ n') (hf : ∀ j, f j = f' j) (hg : ∀ s q, g s q = g' s q) : bG w p mb N n' ws f' g' v rows bls := by
 rw [funext hf] at h
 exact ⟨h.lt, h.box, h.grow, h.sub, h.nd, (h.seen.mono hn).congr hg, h.ln, h.iP, h.pN⟩
end bG
abbrev Told (w : World) (p mb N : Nat) (ws : List aj) (v : Value) (rows : List (List Value)) (bls : List (List Nat)) : Prop := bG w p mb N ws.length ws (az ws) (fun s q => cD ws s q) v rows bls
theorem jG (w : World) : Told ((w.alloc (.map #[] 0)).alloc (.cells (cy (.slice none 0 0) w.heap.size (az [])) 237)) (w.heap.size + 1) w.heap.size ((w.alloc (.map #[] 0)).alloc (.cells (cy (.slice none 0 0) w.heap.size (az [])) 237)).heap.size [] (.slice none 0 0) [] [] := by
 have e : (w.alloc (.map #[] 0)).heap.size = w.heap.size + 1 := by simp
 have b : aA 0 (cy (.slice none 0 0) w.heap.size (az [])) 237 ((w.alloc (.map #[] 0)).alloc (.cells (cy (.slice none 0 0) w.heap.size (az [])) 237)) (w.alloc (.map #[] 0)).heap.size := aM (Nat.zero_le _)
 rw [e] at b
 refine ⟨by omega, b, dj.nil ⟨by simp, Or.inl ⟨rfl, rfl⟩⟩, by simp, by simp, ?_, by simp, by simp [Value.ownBlock], b.lt⟩
 exact (iX w).ext (bj ((Below.refl _ _).alloc (Nat.le_refl _) _) (fun _ => False)) (fun h => h)
theorem dX {w w' : World} {o : Obj} {r : Option Nat} (h : (w.alloc o).grownBy w' r) : w.grownBy w' r := gB (World.grownBy_alloc w o r) h
end Go.Proofs.YtecagllmonckgaaGreat
