/-
  Texts of this proof in one: Big, AsErr, TickMap, ToldPlain, ImplRefuse, ErrCond, AsCall, AsMiss.
  Their conditions stand in their theorems.
-/
import Derived.Test.YtkodenmpadehjaaDoorChecked
import Derived.Test.YtkodenmpadehjaaDoorSqO01
import Derived.LaidEql
import Derived.Stop.Asserts
import Derived.RowKitTokens
import Derived.Maps.OwnSet
import Derived.DeepKeys4
import Derived.Test.YtkodenmpadehjaaDoorSqO05
import Derived.Deep.RegionHeld3
import Derived.Laws.Tables

namespace Go.Proofs.YtkodenmpadehjaaDoor
open Go.RowKit

theorem big_no (ao : Option Addr) (len cap : Nat) (w : World) (hn : len ≤ 1048576) :
    Calls Tryd.prog 5 #[.slice ao len cap] w fun e w' => e = .returned (.bool false) ∧ w' = w := by
  have hd : decide (1048576 < (len : Int)) = false := by simp; omega
  go_enter Tryd.func5, Tryd.ntmps5
  go_wp2
  go_ret
  exact ⟨rfl, rfl⟩

theorem big_yes (ao : Option Addr) (len cap : Nat) (w : World) (hn : 1048576 < len) :
    Calls Tryd.prog 5 #[.slice ao len cap] w fun e w' => e = .returned (.bool true) ∧ w' = w := by
  have hd : decide (1048576 < (len : Int)) = true := by simp; omega
  go_enter Tryd.func5, Tryd.ntmps5
  go_wp2
  go_ret
  exact ⟨rfl, rfl⟩

/-- A function that computes: what it answers wherever w1 stands. -/
def Tells (P : Program) (f : Nat) (args : Array Value) (w1 : World) (v : Value) : Prop :=
  ∀ W, Below w1.heap.size w1 W → Calls P f args W fun e w' => e = .returned v ∧ Below W.heap.size W w'

theorem below_step {w1 W W' : World} (h : Below w1.heap.size w1 W) (k : Below W.heap.size W W') : Below w1.heap.size w1 W' := h.trans (k.mono h.size)

end Go.Proofs.YtkodenmpadehjaaDoor

namespace Go.Proofs.YtkodenmpadehjaaDoor
open Go.RowKit Go.Extern.Stop Go.Stop Go.Extern

/-- errors.errorType as it is laid. -/
def ErrT (w : World) : Prop := w.cell? ⟨1, 0, none⟩ = some (.iface 130 (.agg #[.pointer (some ⟨2, 76, none⟩)]))

theorem asOf (t : Addr) (w : World) : (ReflectliteValue.unpack (.iface 108 (.pointer (some t)))).run Tryd.prog w
    = .ok (.agg #[.pointer (some ⟨2, 108, none⟩), .pointer (some ⟨w.heap.size, 0, none⟩), .int .u64 150]) (w.alloc (.cells #[.pointer (some t)] 108)) := by kernel_rfl
theorem asType (a : Addr) (w : World) : (ReflectliteValue.methodAny (ReflectliteValue.valueError "reflectlite.Value.Type" 0) (fun t _ _ _ => ReflectliteType.toType t) #[.agg #[.pointer (some ⟨2, 108, none⟩), .pointer (some a), .int .u64 150]]).run Tryd.prog w
    = .ok (.iface 130 (.agg #[.pointer (some ⟨2, 108, none⟩)])) w := by kernel_rfl
theorem asMKind (h : Value) (w : World) : (Go.method 277 130 (.agg #[h]) "Kind").run Tryd.prog w = .ok (94, h) w := by kernel_rfl
theorem asKindP (w : World) : ((ReflectliteType.abiMethod fun t => (fun a : Nat => Value.int IntKind.u8 (a : Int)) <$> Rtype.kind t) #[.pointer (some ⟨2, 108, none⟩)]).run Tryd.prog w = .ok (.int .u8 22) w := by kernel_rfl
theorem asKindO (w : World) : ((ReflectliteType.abiMethod fun t => (fun a : Nat => Value.int IntKind.u8 (a : Int)) <$> Rtype.kind t) #[.pointer (some ⟨2, 106, none⟩)]).run Tryd.prog w = .ok (.int .u8 25) w := by kernel_rfl
theorem asRlm (z : Sem Value) (f : TypeId → Addr → Nat → Nat → Sem Value) (v : Value) :
    ReflectliteValue.method z f #[v] = (do match ← ReflectliteValue.parts v with | none => z | some (t, a, fl) => f t a fl (fl % 32)) := rfl
theorem asPartsP (a : Addr) (w : World) : (ReflectliteValue.parts (.agg #[.pointer (some ⟨2, 108, none⟩), .pointer (some a), .int .u64 150])).run Tryd.prog w = .ok (some (108, a, 150)) w := by kernel_rfl
theorem asIsNil (a p : Addr) (W : World) (ha : W.cell? a = some (.pointer (some p))) :
    (ReflectliteValue.method (ReflectliteValue.valueError "reflectlite.Value.IsNil" 0) ReflectliteValue.isNil #[.agg #[.pointer (some ⟨2, 108, none⟩), .pointer (some a), .int .u64 150]]).run Tryd.prog W = .ok (.bool false) W := by
  rw [asRlm]
  simp only [Sem.run_bind, asPartsP, Result.andThen]
  simp [ReflectliteValue.isNil, loadVar, isAgg, underlying, Tryd.underlying108, ha, Result.andThen]
theorem asMElem (h : Value) (w : World) : (Go.method 277 130 (.agg #[h]) "Elem").run Tryd.prog w = .ok (106, .agg #[h]) w := by kernel_rfl
theorem asMImpl (h : Value) (w : World) : (Go.method 277 130 (.agg #[h]) "Implements").run Tryd.prog w = .ok (107, .agg #[h]) w := by kernel_rfl
theorem asMAssign (h : Value) (w : World) : (Go.method 277 130 (.agg #[h]) "AssignableTo").run Tryd.prog w = .ok (104, .agg #[h]) w := by kernel_rfl
theorem asElemT (w : World) : (ReflectliteType.method ReflectliteType.elem #[.agg #[.pointer (some ⟨2, 108, none⟩)]]).run Tryd.prog w = .ok (.iface 130 (.agg #[.pointer (some ⟨2, 106, none⟩)])) w := by kernel_rfl
theorem asImpl (w : World) : (ReflectliteType.relation "Implements" ReflectliteType.implements_ #[.agg #[.pointer (some ⟨2, 106, none⟩)], .iface 130 (.agg #[.pointer (some ⟨2, 76, none⟩)])]).run Tryd.prog w = .ok (.bool true) w := by kernel_rfl
theorem asTypeO (v : Value) (w : World) : (ReflectliteType.typeOf #[.iface 106 v]).run Tryd.prog w = .ok (.iface 130 (.agg #[.pointer (some ⟨2, 106, none⟩)])) w := by kernel_rfl
theorem asTypeE (v : Value) (w : World) : (ReflectliteType.typeOf #[.iface 143 v]).run Tryd.prog w = .ok (.iface 130 (.agg #[.pointer (some ⟨2, 143, none⟩)])) w := by kernel_rfl
theorem asAssO (w : World) : (ReflectliteType.relation "AssignableTo" ReflectliteType.assignableTo #[.agg #[.pointer (some ⟨2, 106, none⟩)], .iface 130 (.agg #[.pointer (some ⟨2, 106, none⟩)])]).run Tryd.prog w = .ok (.bool true) w := by kernel_rfl
theorem asAssE (w : World) : (ReflectliteType.relation "AssignableTo" ReflectliteType.assignableTo #[.agg #[.pointer (some ⟨2, 143, none⟩)], .iface 130 (.agg #[.pointer (some ⟨2, 106, none⟩)])]).run Tryd.prog w = .ok (.bool false) w := by kernel_rfl
theorem asOfO (x y : Int) (w : World) : (ReflectliteValue.unpack (.iface 106 (.agg #[.int .i64 x, .int .i64 y]))).run Tryd.prog w
    = .ok (.agg #[.pointer (some ⟨2, 106, none⟩), .pointer (some ⟨w.heap.size, 0, none⟩), .int .u64 153]) (w.alloc (.cells #[.int .i64 x, .int .i64 y] 106)) := by kernel_rfl
theorem asElemOf (w : World) : (Rtype.elem? 108).run Tryd.prog w = .ok (some 106) w := by kernel_rfl
theorem asMk (p : Addr) (w : World) : (ReflectliteValue.mk 106 p ReflectliteValue.flagAddr).run Tryd.prog w = .ok (.agg #[.pointer (some ⟨2, 106, none⟩), .pointer (some p), .int .u64 409]) w := by kernel_rfl
theorem asElemV (a p : Addr) (W : World) (ha : W.cell? a = some (.pointer (some p))) :
    (ReflectliteValue.method (ReflectliteValue.valueError "reflectlite.Value.Elem" 0) ReflectliteValue.elem #[.agg #[.pointer (some ⟨2, 108, none⟩), .pointer (some a), .int .u64 150]]).run Tryd.prog W
      = .ok (.agg #[.pointer (some ⟨2, 106, none⟩), .pointer (some p), .int .u64 409]) W := by
  rw [asRlm]
  simp only [Sem.run_bind, asPartsP, Result.andThen]
  simp [ReflectliteValue.elem, loadVar, isAgg, underlying, Tryd.underlying108, ha, Result.andThen, asElemOf, asMk]
theorem asRls (v x : Value) : ReflectliteValue.set #[v, x] = (do
    let (some (dst, a, fl), some (src, b, _)) := (← ReflectliteValue.parts v, ← ReflectliteValue.parts x)
      | unsupported (.noEntry "extern/(internal/reflectlite.Value).Set.zeroValue")
    if fl / ReflectliteValue.flagAddr % 2 == 0 then unsupported (.noEntry "extern/(internal/reflectlite.Value).Set.unaddressable")
    let val ← loadVar src b
    if ← Rtype.directlyAssignable dst src then storeVar dst a val
    else if ← Rtype.implements dst src then
      if (← Rtype.kind src) == 20 then
        match val with
        | .nilIface => unsupported (.noEntry "extern/reflectlite: a nil value of one interface type handed on as a value of another")
        | _ => storeVar dst a val
      else storeVar dst a (.iface src val)
    else panicString ("reflectlite.Set: value of type " ++ (← Rtype.spelt src) ++ " is not assignable to type " ++ (← Rtype.spelt dst))
    pure (.tuple #[])) := rfl
theorem asPartsA (a : Addr) (w : World) : (ReflectliteValue.parts (.agg #[.pointer (some ⟨2, 106, none⟩), .pointer (some a), .int .u64 409])).run Tryd.prog w = .ok (some (106, a, 409)) w := by kernel_rfl
theorem asPartsO (a : Addr) (w : World) : (ReflectliteValue.parts (.agg #[.pointer (some ⟨2, 106, none⟩), .pointer (some a), .int .u64 153])).run Tryd.prog w = .ok (some (106, a, 153)) w := by kernel_rfl
theorem asDirect (w : World) : (Rtype.directlyAssignable 106 106).run Tryd.prog w = .ok true w := by kernel_rfl
theorem asSize (w : World) : (sizeOf 106).run Tryd.prog w = .ok 2 w := by kernel_rfl

end Go.Proofs.YtkodenmpadehjaaDoor

namespace Go.Proofs.YtkodenmpadehjaaDoor
open Go.RowKit Go.Maps

def tick (s q : Int) : Value := .agg #[.int .i64 s, .int .i64 q]
theorem tickLaid : laidOutB Tryd.prog = true := by kernel_rfl
theorem tickRow : (73 : TypeId) < Tryd.prog.types.size := of_decide_eq_true (by kernel_rfl)
theorem tickWide : (match Tryd.prog.underlying 73 with | some (.array _ _) | some (.struct _) => true | _ => false) = true := by kernel_rfl
set_option maxRecDepth 100000 in
theorem tickKeyed : Keyed Tryd.prog 73 := Keyed.of_law (deep_law_laid tickLaid (m := 2) (by omega) tickRow (by kernel_rfl) tickWide)
set_option maxRecDepth 100000 in
theorem tickKey {s q : Int} (hs : (Lit.int .i64 s).wf = true) (hq : (Lit.int .i64 q).wf = true) : keyOf Tryd.prog 73 (tick s q) = some (.string (keyBytes [.int .i64 s, .int .i64 q])) := by
  have hk : Tryd.prog.keyType 73 = true := by kernel_rfl
  have hc : Tryd.prog.cellsOf 73 = 2 := by kernel_rfl
  have hc1 : Tryd.prog.cellsOf 2 = 1 := by kernel_rfl
  have hf : (tick s q).formed Tryd.prog 73 = true := by simp [tick, Value.formed, Tryd.underlying73, hc]
  obtain ⟨m, hm⟩ : ∃ m, Tryd.prog.types.size = m + 1 := ⟨_, (Nat.succ_pred_eq_of_pos (Nat.lt_of_le_of_lt (Nat.zero_le _) tickRow)).symm⟩
  unfold keyOf
  simp only [Tryd.underlying73]
  rw [if_pos (by rw [hk, hf]; rfl), hm]
  unfold Program.keyLits
  simp only [Tryd.underlying73, tick, Value.cells]
  simp [hc, hc1, Program.keyLits, Tryd.underlying2, hs, hq]
theorem tickZero (w : World) : (zeroValue 2).run Tryd.prog w = .ok (.int .i64 0) w := by kernel_rfl

/-- Block b is a map of at most n entries that tells f. -/
def Ticks (w : World) (b n : Nat) (f : Int → Int → Nat) : Prop := ∃ D : DataW Unit, w.ownsMap Tryd.prog 73 (plainElem Tryd.prog 2) b n D ∧
  ∀ s q, (Lit.int .i64 s).wf = true → (Lit.int .i64 q).wf = true → Maps.has D (.string (keyBytes [.int .i64 s, .int .i64 q])) = decide (f s q ≠ 0) ∧ D.atKey (.string (keyBytes [.int .i64 s, .int .i64 q])) (.lit (.int .i64 0)) = .lit (.int .i64 (f s q))
theorem Ticks.ext {S : Nat → Prop} {w w' : World} {b n : Nat} {f : Int → Int → Nat} (h : Ticks w b n f) (e : Ext S w w') (hb : ¬ S b) : Ticks w' b n f := by
  obtain ⟨D, h, r⟩ := h
  have hlt := World.ownsMap.lt h
  obtain ⟨es, clock, hb', r'⟩ := h
  exact ⟨D, ⟨es, clock, (e.block b hlt hb).trans hb', r'⟩, r⟩
theorem Ticks.lt {w : World} {b n : Nat} {f : Int → Int → Nat} (h : Ticks w b n f) : b < w.heap.size := by
  obtain ⟨D, h, -⟩ := h
  exact World.ownsMap.lt h
theorem Ticks.mono {w : World} {b n n' : Nat} {f : Int → Int → Nat} (h : Ticks w b n f) (hn : n ≤ n') : Ticks w b n' f := by
  obtain ⟨D, h, r⟩ := h
  exact ⟨D, World.ownsMap.mono h hn, r⟩
theorem Ticks.congr {w : World} {b n : Nat} {f g : Int → Int → Nat} (h : Ticks w b n f) (e : ∀ s q, f s q = g s q) : Ticks w b n g := by
  obtain ⟨D, h, r⟩ := h
  exact ⟨D, h, fun s q hs hq => by rw [← e]; exact r s q hs hq⟩
theorem Ticks.look {w : World} {b n : Nat} {f : Int → Int → Nat} (h : Ticks w b n f) {s q : Int} (hs : (Lit.int .i64 s).wf = true) (hq : (Lit.int .i64 q).wf = true) :
    (Instr.lookup 68 (.map (some b)) (tick s q) true).run Tryd.prog w = .ok (.tuple #[.int .i64 (f s q), .bool (decide (f s q ≠ 0))]) w := by
  obtain ⟨D, h, r⟩ := h
  obtain ⟨r1, r2⟩ := r s q hs hq
  obtain ⟨v, ps, hrun, hv⟩ := World.ownsMap.look_ok h tickKeyed Tryd.underlying68 (tickZero w) (plainElem_int Tryd.underlying2 (by decide)) (tickKey hs hq)
  rw [r2] at hv
  obtain ⟨c, rfl, hc, -⟩ := plainElem_int_inv Tryd.underlying2 hv
  rw [r1] at hrun
  simp only [Prod.mk.injEq, DataW.lit.injEq, Lit.int.injEq, true_and] at hc
  rw [hc.1]
  exact hrun
theorem Ticks.put {w : World} {b n : Nat} {f : Int → Int → Nat} (h : Ticks w b n f) (hn : n < 100000) {s q : Int} (hs : (Lit.int .i64 s).wf = true) (hq : (Lit.int .i64 q).wf = true) {m : Nat} (hm : m ≠ 0) (hw : (Lit.int .i64 (m : Int)).wf = true) :
    ∃ w', (Instr.mapUpdate 68 (.map (some b)) (tick s q) (.int .i64 m)).run Tryd.prog w = .ok () w' ∧ Ticks w' b (n + 1) (fun s' q' => if s' = s ∧ q' = q then m else f s' q') ∧ Ext (fun c => c = b) w w' := by
  obtain ⟨D, h, r⟩ := h
  obtain ⟨w', h1, h2, h3⟩ := World.ownsMap.store h tickKeyed Tryd.underlying68 (by unfold maxLen; omega) (tickKey hs hq) (plainElem_int Tryd.underlying2 hw)
  refine ⟨w', h1, ⟨_, h2, fun s' q' hs' hq' => ?_⟩, ?_⟩
  · have hk : WideAt.IsKeyLit (.string (keyBytes [.int .i64 s, .int .i64 q])) := trivial
    by_cases e : s' = s ∧ q' = q
    · obtain ⟨rfl, rfl⟩ := e
      rw [Maps.has_put_same (World.ownsMap.isMap h) hk, Maps.atKey_put_same (World.ownsMap.isMap h) hk]
      simp [hm]
    · have hne : Lit.string (keyBytes [.int .i64 s', .int .i64 q']) ≠ Lit.string (keyBytes [.int .i64 s, .int .i64 q]) := by
        intro e2
        have k1 := tickKey hs' hq'
        rw [e2] at k1
        have k2 := tickKeyed.inj k1 (tickKey hs hq)
        simp only [tick, Value.agg.injEq, Array.mk.injEq, List.cons.injEq, Value.int.injEq, true_and, and_true] at k2
        exact e k2
      rw [Maps.has_put_other hne, Maps.atKey_put_other hne]
      simp only [if_neg e]
      exact r s' q' hs' hq'
  · have g := h3.grown
    obtain ⟨es, clock, es', clock', hb, rfl⟩ := h3
    exact ⟨rfl, rfl, rfl, by simp [ChangeMaps.setBlock], fun k hk hn => g.block k hk (fun e => hn (by simpa using e))⟩
theorem ticks_new (w : World) : Ticks (w.alloc (.map #[] 0)) w.heap.size 0 (fun _ _ => 0) := ⟨.map [], World.ownsMap_made w _ _ _, fun _ _ _ _ => ⟨rfl, rfl⟩⟩

end Go.Proofs.YtkodenmpadehjaaDoor

namespace Go.Proofs.YtkodenmpadehjaaDoor
open Go.RowKit

def tcells (v : Value) (mb : Nat) (f : Int → Int) : Array Value := #[v, .map (some mb), .int .i64 (f 0), .int .i64 (f 1), .int .i64 (f 2), .int .i64 (f 3), .int .i64 (f 4), .int .i64 (f 5), .int .i64 (f 6), .int .i64 (f 7), .int .i64 (f 8), .int .i64 (f 9)]
theorem tcells_at (v : Value) (mb : Nat) (f : Int → Int) (i : Nat) (h : i < 10) : (tcells v mb f)[2 + i]? = some (.int .i64 (f i)) := by
  match i, h with
  | 0, _ => rfl
  | 1, _ => rfl
  | 2, _ => rfl
  | 3, _ => rfl
  | 4, _ => rfl
  | 5, _ => rfl
  | 6, _ => rfl
  | 7, _ => rfl
  | 8, _ => rfl
  | 9, _ => rfl
theorem tcells_set (v : Value) (mb : Nat) (f : Int → Int) (i : Nat) (h : i < 10) (z : Int) : (tcells v mb f).setIfInBounds (2 + i) (.int .i64 z) = tcells v mb (fun j => if j = i then z else f j) := by
  match i, h with
  | 0, _ => rfl
  | 1, _ => rfl
  | 2, _ => rfl
  | 3, _ => rfl
  | 4, _ => rfl
  | 5, _ => rfl
  | 6, _ => rfl
  | 7, _ => rfl
  | 8, _ => rfl
  | 9, _ => rfl
theorem tcells_congr {v : Value} {mb : Nat} {f g : Int → Int} (h : ∀ j, f j = g j) : tcells v mb f = tcells v mb g := by rw [funext h]

theorem frozen_of_block {w w' : World} {b : Nat} (h : w'.heap[b]? = w.heap[b]?) (o : Nat) : w'.frozen? ⟨b, o, none⟩ = w.frozen? ⟨b, o, none⟩ := by
  unfold World.frozen?
  simp only [h]
/-- Block p is a story of the writes ws, with the last numbers f and the places g; its map is block mb; all that it holds lies below N. -/
structure Told0 (w : World) (p mb N n : Nat) (ws : List DWrite) (f : Int → Int) (g : Int → Int → Nat) (v : Value) (rows : List (List Value)) (bls : List (List Nat)) : Prop where
  lt : mb < p
  box : Box 0 (tcells v mb f) 71 w p
  grow : Grow Lay.tWrite w (p + 1) 27 v rows ws bls
  sub : ∀ b ∈ bls.flatten, p + 1 ≤ b ∧ ∀ o, w.frozen? ⟨b, o, none⟩ = false
  nd : bls.flatten.Nodup
  seen : Ticks w mb n g
  hiB : ∀ b ∈ bls.flatten, b < N
  hiV : ∀ b, v.ownBlock = some b → b < N
  pN : p < N
namespace Told0
variable {w w' : World} {p mb N n : Nat} {ws : List DWrite} {f : Int → Int} {g : Int → Int → Nat} {v : Value} {rows : List (List Value)} {bls : List (List Nat)}
theorem kept (h : Told0 w p mb N n ws f g v rows bls) {S : Nat → Prop} (e : Ext S w w') (hS : ∀ c, mb ≤ c → c < w.heap.size → ¬ S c) : Told0 w' p mb N n ws f g v rows bls := by
  have hs : ∀ b ∈ bls.flatten, w'.heap[b]? = w.heap[b]? := fun b hb => e.block b (h.grow.sub_lt b hb) (hS b (by have := (h.sub b hb).1; have := h.lt; omega) (h.grow.sub_lt b hb))
  refine ⟨h.lt, h.box.ext e (hS p (Nat.le_of_lt h.lt) h.box.lt), h.grow.kept ?_ hs, fun b hm => ⟨(h.sub b hm).1, fun o => (frozen_of_block (hs b hm) o).trans ((h.sub b hm).2 o)⟩, h.nd, h.seen.ext e (hS mb (Nat.le_refl _) h.seen.lt), h.hiB, h.hiV, h.pN⟩
  obtain ⟨h1, h2⟩ := h.grow.own
  refine ⟨h1, ?_⟩
  rcases h2 with h2 | ⟨gb, cap, cur, hv, hg, hh, r⟩
  · exact Or.inl h2
  · exact Or.inr ⟨gb, cap, cur, hv, hg, (e.block gb (lt_of_block hh) (hS gb (by have := h.lt; omega) (lt_of_block hh))).trans hh, r⟩
theorem later (h : Told0 w p mb N n ws f g v rows bls) (hb : Below w.heap.size w w') : Told0 w' p mb N n ws f g v rows bls := h.kept (ext_of_below hb (fun _ => False)) (fun _ _ _ e => e)
theorem raise (h : Told0 w p mb N n ws f g v rows bls) {N' : Nat} (hN : N ≤ N') : Told0 w p mb N' n ws f g v rows bls :=
  ⟨h.lt, h.box, h.grow, h.sub, h.nd, h.seen, fun b hb => Nat.lt_of_lt_of_le (h.hiB b hb) hN, fun b hb => Nat.lt_of_lt_of_le (h.hiV b hb) hN, Nat.lt_of_lt_of_le h.pN hN⟩
theorem top (h : Told0 w p mb N n ws f g v rows bls) : Told0 w p mb w.heap.size n ws f g v rows bls :=
  ⟨h.lt, h.box, h.grow, h.sub, h.nd, h.seen, fun b hb => h.grow.sub_lt b hb, fun b hb => (h.grow.own.lt b hb).2, h.box.lt⟩
theorem own (h : Told0 w p mb N n ws f g v rows bls) (hn : ws.length ≤ 9223372036854775807) : (Lay.sl Lay.tWrite).OwnIn w [v] ws (p + 1) w.heap.size := h.grow.toOwn hn h.nd h.sub
/-- The slice has grown, and stands in its cell. -/
theorem added (h : Told0 w p mb N n ws f g v rows bls) {v' : Value} {rows' : List (List Value)} {ws' : List DWrite} {bls' : List (List Nat)} (hG : Grow Lay.tWrite w' (p + 1) 27 v' rows' ws' bls') (hE : Ext (fun q => v.ownBlock = some q) w w') (hs : ∀ b ∈ bls'.flatten, p + 1 ≤ b ∧ ∀ o, w'.frozen? ⟨b, o, none⟩ = false) (hnd : bls'.flatten.Nodup) :
    Told0 (w'.setCell ⟨p, 0, none⟩ v') p mb (w'.setCell ⟨p, 0, none⟩ v').heap.size n ws' f g v' rows' bls' := by
  have hb : Box 0 (tcells v mb f) 71 w' p := h.box.ext hE (fun e => by have := (h.grow.own.lt p e).1; omega)
  have hb2 : Box 0 (tcells v' mb f) 71 (w'.setCell ⟨p, 0, none⟩ v') p := hb.set 0 v'
  have e2 : Ext (fun c => c = p) w' (w'.setCell ⟨p, 0, none⟩ v') := (Ext.refl (fun c => c = p) w').setCell ⟨p, 0, none⟩ v' rfl
  have hk : ∀ b ∈ bls'.flatten, (w'.setCell ⟨p, 0, none⟩ v').heap[b]? = w'.heap[b]? := fun b hb => e2.block b (hG.sub_lt b hb) (by have := (hs b hb).1; omega)
  have hG2 : Grow Lay.tWrite (w'.setCell ⟨p, 0, none⟩ v') (p + 1) 27 v' rows' ws' bls' := hG.kept (own_setC (a := ⟨p, 0, none⟩) hG.own (by simp) v') hk
  refine ⟨h.lt, hb2, hG2, fun b hm => ⟨(hs b hm).1, fun o => (frozen_of_block (hk b hm) o).trans ((hs b hm).2 o)⟩, hnd, ?_, fun b hm => hG2.sub_lt b hm, fun b hm => (hG2.own.lt b hm).2, hb2.lt⟩
  exact (h.seen.ext hE (fun e => by have := (h.grow.own.lt mb e).1; have := h.lt; omega)).ext e2 (by have := h.lt; omega)
/-- The map has turned. -/
theorem marked (h : Told0 w p mb N n ws f g v rows bls) {n' : Nat} {g' : Int → Int → Nat} (hE : Ext (fun c => c = mb) w w') (hT : Ticks w' mb n' g') : Told0 w' p mb N n' ws f g' v rows bls := by
  have hs : ∀ b ∈ bls.flatten, w'.heap[b]? = w.heap[b]? := fun b hb => hE.block b (h.grow.sub_lt b hb) (by have := (h.sub b hb).1; have := h.lt; omega)
  refine ⟨h.lt, h.box.ext hE (by have := h.lt; omega), h.grow.kept ?_ hs, fun b hm => ⟨(h.sub b hm).1, fun o => (frozen_of_block (hs b hm) o).trans ((h.sub b hm).2 o)⟩, h.nd, hT, h.hiB, h.hiV, h.pN⟩
  obtain ⟨h1, h2⟩ := h.grow.own
  refine ⟨h1, ?_⟩
  rcases h2 with h2 | ⟨gb, cap, cur, hv, hg, hh, r⟩
  · exact Or.inl h2
  · exact Or.inr ⟨gb, cap, cur, hv, hg, (hE.block gb (lt_of_block hh) (by have := h.lt; omega)).trans hh, r⟩
/-- A last number is another. -/
theorem lasted (h : Told0 w p mb N n ws f g v rows bls) (i : Nat) (hi : i < 10) (z : Int) : Told0 (w.setCell ⟨p, 2 + i, none⟩ (.int .i64 z)) p mb N n ws (fun j => if j = i then z else f j) g v rows bls := by
  have e2 : Ext (fun c => c = p) w (w.setCell ⟨p, 2 + i, none⟩ (.int .i64 z)) := (Ext.refl (fun c => c = p) w).setCell ⟨p, 2 + i, none⟩ _ rfl
  have hs : ∀ b ∈ bls.flatten, (w.setCell ⟨p, 2 + i, none⟩ (.int .i64 z)).heap[b]? = w.heap[b]? := fun b hb => e2.block b (h.grow.sub_lt b hb) (by have := (h.sub b hb).1; omega)
  refine ⟨h.lt, ?_, h.grow.kept (own_setC (a := ⟨p, 2 + i, none⟩) h.grow.own (by simp) _) hs, fun b hm => ⟨(h.sub b hm).1, fun o => (frozen_of_block (hs b hm) o).trans ((h.sub b hm).2 o)⟩, h.nd, h.seen.ext e2 (by have := h.lt; omega), h.hiB, h.hiV, h.pN⟩
  rw [← tcells_set v mb f i hi z]
  exact h.box.set (2 + i) _
theorem same (h : Told0 w p mb N n ws f g v rows bls) {n' : Nat} {f' : Int → Int} {g' : Int → Int → Nat} (hn : n ≤ n') (hf : ∀ j, f j = f' j) (hg : ∀ s q, g s q = g' s q) : Told0 w p mb N n' ws f' g' v rows bls := by
  rw [funext hf] at h
  exact ⟨h.lt, h.box, h.grow, h.sub, h.nd, (h.seen.mono hn).congr hg, h.hiB, h.hiV, h.pN⟩
end Told0
/-- Block p is a story of the writes ws. -/
abbrev Told (w : World) (p mb N : Nat) (ws : List DWrite) (v : Value) (rows : List (List Value)) (bls : List (List Nat)) : Prop := Told0 w p mb N ws.length ws (lastI ws) (fun s q => seenI ws s q) v rows bls
theorem told_new (w : World) : Told ((w.alloc (.map #[] 0)).alloc (.cells (tcells (.slice none 0 0) w.heap.size (lastI [])) 71)) (w.heap.size + 1) w.heap.size ((w.alloc (.map #[] 0)).alloc (.cells (tcells (.slice none 0 0) w.heap.size (lastI [])) 71)).heap.size [] (.slice none 0 0) [] [] := by
  have e : (w.alloc (.map #[] 0)).heap.size = w.heap.size + 1 := by simp
  have b : Box 0 (tcells (.slice none 0 0) w.heap.size (lastI [])) 71 ((w.alloc (.map #[] 0)).alloc (.cells (tcells (.slice none 0 0) w.heap.size (lastI [])) 71)) (w.alloc (.map #[] 0)).heap.size := newBox (Nat.zero_le _)
  rw [e] at b
  refine ⟨by omega, b, Grow.nil ⟨by simp, Or.inl ⟨rfl, rfl⟩⟩, by simp, by simp, ?_, by simp, by simp [Value.ownBlock], b.lt⟩
  exact (ticks_new w).ext (ext_of_below ((Below.refl _ _).alloc (Nat.le_refl _) _) (fun _ => False)) (fun h => h)

end Go.Proofs.YtkodenmpadehjaaDoor

namespace Go.Proofs.YtkodenmpadehjaaDoor
open Go.RowKit

/-- impl.errFull as it is laid. -/
def ErrF (ea : Addr) (w : World) : Prop := w.cell? ⟨0, 0, none⟩ = some (.iface 143 (.pointer (some ea)))
def refV (ea : Addr) (ws : List DWrite) (x : DWrite) : Value := if x.seq < lastI ws x.session then .iface 106 (.agg #[.int .i64 x.seq, .int .i64 (lastI ws x.session)]) else if 200 ≤ ws.length then .iface 143 (.pointer (some ea)) else .nilIface

set_option maxRecDepth 100000 in
set_option maxHeartbeats 4000000 in
theorem refusalC {w : World} {p mb N : Nat} {ws : List DWrite} {v : Value} {rows : List (List Value)} {bls : List (List Nat)} (h : Told w p mb N ws v rows bls) (x : DWrite) (a2 : Option Addr) (d2 : Nat) (hf : wF x = 0) (ea : Addr) (he : ErrF ea w) :
    Calls Tryd.prog 33 #[.pointer (some ⟨p, 0, none⟩), .agg #[.int .i64 x.kind, .int .i64 x.id, .slice a2 x.vec.length d2, .int .i64 x.session, .int .i64 x.seq]] w fun e w' => e = .returned (refV ea ws x) ∧ Below w.heap.size w w' := by
  have nb : Below w.heap.size w (w.alloc (.cells #[.int .i64 x.kind, .int .i64 x.id, .slice a2 x.vec.length d2, .int .i64 x.session, .int .i64 x.seq] 27)) := (Below.refl _ _).alloc (Nat.le_refl _) _
  have hQ0 : Box 0 #[.int .i64 x.kind, .int .i64 x.id, .slice a2 x.vec.length d2, .int .i64 x.session, .int .i64 x.seq] 27 (w.alloc (.cells #[.int .i64 x.kind, .int .i64 x.id, .slice a2 x.vec.length d2, .int .i64 x.session, .int .i64 x.seq] 27)) w.heap.size := newBox (Nat.zero_le _)
  have hT0 := h.later nb
  have hE0 := (nb.cell (p := ⟨0, 0, none⟩) (World.block_lt_of_cell? _ _ he)).trans he
  have HB := hide nb.drew
  obtain ⟨b1, b9, q1, q9⟩ := wF_seq hf
  have hs9 : x.session.toNat < 10 := by omega
  have hsi : (x.session.toNat : Int) = x.session := by omega
  have i1 : (0 : Int) ≤ x.session := by omega
  have i2 : x.session < 10 := by omega
  have hpw := h.box.lt
  have hvf : ∃ ao cap, v = .slice ao ws.length cap := by
    rcases h.grow.form with ⟨rfl, rfl⟩ | ⟨g, cap, rfl, -⟩
    · exact ⟨_, _, rfl⟩
    · exact ⟨_, _, rfl⟩
  obtain ⟨ao, cap, rfl⟩ := hvf
  clear nb h he hf
  go_enter Tryd.func33, Tryd.ntmps33
  go_wp2_with fail
  generalize w.alloc (.cells #[.int .i64 x.kind, .int .i64 x.id, .slice a2 x.vec.length d2, .int .i64 x.session, .int .i64 x.seq] 27) = W0 at *
  refine wp_region_noPanic ?_
  refine wp_region_held_drew (S := fun w' => w' = W0.drew) (by kernel_rfl) rfl (fun hHeld => ?_)
  refine wpAnyH_take (i := 0) (oi := { dst := some 6, op := Go.Op.move (Go.Operand.tmp 0), type := 60, pos := "l05_session.go:85", after := #[], guard := none }) (v := ?vr0) rfl (by kernel_rfl) (by kernel_rfl) (by kernel_rfl) (fun _ _ _ h => h) (Or.inl ⟨by rfl, ?hr0⟩) hHeld ?rr0
  case hr0 =>
    intro wS hSw
    (try dsimp only at hSw)
    go_simp
    try with_reducible rfl
  case rr0 =>
  simp only [Act.put, List.setIfInBounds_toArray, List.set_cons_zero, List.set_cons_succ]
  refine wpAnyH_take (i := 1) (oi := { dst := some 7, op := Go.Op.fieldAddr 27 (Go.Operand.tmp 3) 3, type := 0, pos := "l05_session.go:85", after := #[], guard := none }) (v := ?vr1) rfl (by kernel_rfl) (by kernel_rfl) (by kernel_rfl) (fun _ _ _ h => h) (Or.inl ⟨by rfl, ?hr1⟩) hHeld ?rr1
  case hr1 =>
    intro wS hSw
    (try dsimp only at hSw)
    go_simp
    try with_reducible rfl
  case rr1 =>
  simp only [Act.put, List.setIfInBounds_toArray, List.set_cons_zero, List.set_cons_succ]
  refine wpAnyH_take (i := 2) (oi := { dst := some 8, op := Go.Op.load 2 (Go.Operand.tmp 7), type := 2, pos := "l05_session.go:85", after := #[{ on := 1, ground := Go.Ground.data }], guard := none }) (v := ?vr2) rfl (by kernel_rfl) (by kernel_rfl) (by kernel_rfl) (fun _ _ _ h => h) (Or.inl ⟨by rfl, ?hr2⟩) hHeld ?rr2
  case hr2 =>
    intro wS hSw
    have y3 : wS.cell? ⟨w.heap.size, 3, none⟩ = some (.int .i64 x.session) := by rw [hSw]; exact hQ0.at 3 _ rfl
    have zl : wS.cell? ⟨p, 2 + x.session.toNat, none⟩ = some (.int .i64 (lastI ws x.session)) := by
      have := hT0.box.at _ _ (tcells_at _ mb (lastI ws) x.session.toNat hs9)
      rw [hsi] at this
      rw [hSw]; exact this
    clear hSw
    (try dsimp only at hSw)
    go_simp
    try with_reducible rfl
  case rr2 =>
  simp only [Act.put, List.setIfInBounds_toArray, List.set_cons_zero, List.set_cons_succ]
  refine wpAnyH_take (i := 3) (oi := { dst := some 9, op := Go.Op.nilCheck (Go.Operand.tmp 6), type := 0, pos := "l05_session.go:85", after := #[{ on := 0, ground := Go.Ground.data }], guard := none }) (v := ?vr3) rfl (by kernel_rfl) (by kernel_rfl) (by kernel_rfl) (fun _ _ _ h => h) (Or.inl ⟨by rfl, ?hr3⟩) hHeld ?rr3
  case hr3 =>
    intro wS hSw
    (try dsimp only at hSw)
    go_simp
    try with_reducible rfl
  case rr3 =>
  simp only [Act.put, List.setIfInBounds_toArray, List.set_cons_zero, List.set_cons_succ]
  refine wpAnyH_take (i := 4) (oi := { dst := some 10, op := Go.Op.fieldAddr 71 (Go.Operand.tmp 9) 2, type := 0, pos := "l05_session.go:85", after := #[{ on := 3, ground := Go.Ground.data }], guard := none }) (v := ?vr4) rfl (by kernel_rfl) (by kernel_rfl) (by kernel_rfl) (fun _ _ _ h => h) (Or.inl ⟨by rfl, ?hr4⟩) hHeld ?rr4
  case hr4 =>
    intro wS hSw
    (try dsimp only at hSw)
    go_simp
    try with_reducible rfl
  case rr4 =>
  simp only [Act.put, List.setIfInBounds_toArray, List.set_cons_zero, List.set_cons_succ]
  refine wpAnyH_take (i := 5) (oi := { dst := some 11, op := Go.Op.indexAddr 69 (Go.Operand.tmp 10) (Go.Operand.tmp 8), type := 0, pos := "l05_session.go:85", after := #[{ on := 4, ground := Go.Ground.data }, { on := 2, ground := Go.Ground.data }], guard := none }) (v := ?vr5) rfl (by kernel_rfl) (by kernel_rfl) (by kernel_rfl) (fun _ _ _ h => h) (Or.inl ⟨by rfl, ?hr5⟩) hHeld ?rr5
  case hr5 =>
    intro wS hSw
    (try dsimp only at hSw)
    go_simp
    try with_reducible rfl
  case rr5 =>
  simp only [Act.put, List.setIfInBounds_toArray, List.set_cons_zero, List.set_cons_succ]
  refine wpAnyH_take (i := 6) (oi := { dst := some 12, op := Go.Op.load 2 (Go.Operand.tmp 11), type := 2, pos := "l05_session.go:85", after := #[{ on := 5, ground := Go.Ground.data }], guard := none }) (v := ?vr6) rfl (by kernel_rfl) (by kernel_rfl) (by kernel_rfl) (fun _ _ _ h => h) (Or.inl ⟨by rfl, ?hr6⟩) hHeld ?rr6
  case hr6 =>
    intro wS hSw
    have y3 : wS.cell? ⟨w.heap.size, 3, none⟩ = some (.int .i64 x.session) := by rw [hSw]; exact hQ0.at 3 _ rfl
    have zl : wS.cell? ⟨p, 2 + x.session.toNat, none⟩ = some (.int .i64 (lastI ws x.session)) := by
      have := hT0.box.at _ _ (tcells_at _ mb (lastI ws) x.session.toNat hs9)
      rw [hsi] at this
      rw [hSw]; exact this
    clear hSw
    (try dsimp only at hSw)
    go_simp
    try with_reducible rfl
  case rr6 =>
  simp only [Act.put, List.setIfInBounds_toArray, List.set_cons_zero, List.set_cons_succ]
  refine wpAnyH_take (i := 7) (oi := { dst := some 5, op := Go.Op.assign (Go.Operand.tmp 12), type := 2, pos := "l05_session.go:85", after := #[{ on := 6, ground := Go.Ground.data }, { on := 0, ground := Go.Ground.phase }, { on := 1, ground := Go.Ground.phase }, { on := 2, ground := Go.Ground.phase }, { on := 3, ground := Go.Ground.phase }, { on := 4, ground := Go.Ground.phase }, { on := 5, ground := Go.Ground.phase }, { on := 6, ground := Go.Ground.phase }], guard := none }) (v := ?vr7) rfl (by kernel_rfl) (by kernel_rfl) (by kernel_rfl) (fun _ _ _ h => h) (Or.inl ⟨by rfl, ?hr7⟩) hHeld ?rr7
  case hr7 =>
    intro wS hSw
    (try dsimp only at hSw)
    go_simp
    try with_reducible rfl
  case rr7 =>
  simp only [Act.put, List.setIfInBounds_toArray, List.set_cons_zero, List.set_cons_succ]
  refine wpAnyH_done (by kernel_rfl) ?_ _
  refine NoPanic.normal ?_
  clear hHeld
  have y4 : W0.drew.cell? ⟨w.heap.size, 4, none⟩ = some (.int .i64 x.seq) := hQ0.at 4 _ rfl
  have z0 : W0.drew.cell? ⟨p, 0, none⟩ = some (.slice ao ws.length cap) := hT0.box.at 0 _ rfl
  have hE1 : W0.drew.cell? ⟨0, 0, none⟩ = some (.iface 143 (.pointer (some ea))) := hE0
  generalize W0.drew = W2 at *
  clear hQ0 hT0 hE0
  by_cases c1 : x.seq < lastI ws x.session
  · have hd : decide (x.seq < lastI ws x.session) = true := by simpa using c1
    have HV : Hid (refV ea ws x = .iface 106 (.agg #[.int .i64 x.seq, .int .i64 (lastI ws x.session)])) := if_pos c1
    clear c1 hsi
    go_wp2_with fail
    go_ret
    exact ⟨by rw [unhide HV]; first | done | rfl, unhide HB⟩
  · have hd : decide (x.seq < lastI ws x.session) = false := by simpa using c1
    by_cases c2 : 200 ≤ ws.length
    · have hd2 : decide ((200 : Int) ≤ (ws.length : Int)) = true := by simp; omega
      have HV : Hid (refV ea ws x = .iface 143 (.pointer (some ea))) := by show refV ea ws x = _; rw [refV, if_neg c1, if_pos c2]
      clear c1 c2 hsi
      go_wp2_with fail
      go_ret
      exact ⟨by rw [unhide HV]; first | done | rfl, unhide HB⟩
    · have hd2 : decide ((200 : Int) ≤ (ws.length : Int)) = false := by simp; omega
      have HV : Hid (refV ea ws x = .nilIface) := by show refV ea ws x = _; rw [refV, if_neg c1, if_neg c2]
      clear c1 c2 hsi
      go_wp2_with fail
      go_ret
      exact ⟨by rw [unhide HV]; first | done | rfl, unhide HB⟩

end Go.Proofs.YtkodenmpadehjaaDoor

namespace Go.Proofs.YtkodenmpadehjaaDoor
open Go.RowKit

def Errs (w : World) : Prop := ErrT w ∧ ∃ ea, ErrF ea w
theorem ErrT.later {w w' : World} (h : ErrT w) (hb : Below w.heap.size w w') : ErrT w' := (hb.cell (p := ⟨1, 0, none⟩) (World.block_lt_of_cell? _ _ h)).trans h
theorem ErrF.later {ea : Addr} {w w' : World} (h : ErrF ea w) (hb : Below w.heap.size w w') : ErrF ea w' := (hb.cell (p := ⟨0, 0, none⟩) (World.block_lt_of_cell? _ _ h)).trans h
theorem Errs.later {w w' : World} (h : Errs w) (hb : Below w.heap.size w w') : Errs w' := ⟨h.1.later hb, h.2.elim fun ea he => ⟨ea, he.later hb⟩⟩

end Go.Proofs.YtkodenmpadehjaaDoor

namespace Go.Proofs.YtkodenmpadehjaaDoor
open Go.RowKit Go.Extern.Stop Go.Stop Go.Extern

theorem asInfo : (Tryd.prog.info? 106).map (·.size) = some 2 := by kernel_rfl
theorem asSet (tb b : Nat) (x y : Int) (o0 o1 : Value) (W : World) (hb : W.heap[b]? = some (.cells #[.int .i64 x, .int .i64 y] 106 (0, 0))) (ht : W.heap[tb]? = some (.cells #[o0, o1] 106 (0, 0))) :
    (ReflectliteValue.set #[.agg #[.pointer (some ⟨2, 106, none⟩), .pointer (some ⟨tb, 0, none⟩), .int .u64 409], .agg #[.pointer (some ⟨2, 106, none⟩), .pointer (some ⟨b, 0, none⟩), .int .u64 153]]).run Tryd.prog W
      = .ok (.tuple #[]) (W.setRow tb #[.int .i64 x, .int .i64 y]) := by
  have hl := run_loadVar_row W b 106 106 _ (0, 0) _ hb Tryd.underlying106 rfl asInfo
  have hs := run_storeVar_row W tb 106 106 _ #[.int .i64 x, .int .i64 y] ht asInfo rfl (by simp [Value.oneCell'])
  rw [asRls]
  simp only [Sem.run_bind, asPartsA, asPartsO, Result.andThen]
  simp [ReflectliteValue.flagAddr, hl, hs, Result.andThen, asDirect]

theorem below_setRow {B tb : Nat} {w w' : World} (h : Below B w w') (hb : B ≤ tb) (cs : Array Value) : Below B w (w'.setRow tb cs) :=
  ⟨h.os, h.tape, h.output, by simpa using h.size, fun k hk => (setRow_other w' tb k cs (by omega)).trans (h.block k hk)⟩

set_option maxHeartbeats 4000000 in
set_option maxRecDepth 100000 in
/-- errors.As at an error of the program's own make. -/
theorem as_hit (x y : Int) (tb : Nat) (o0 o1 : Value) (w : World) (hg : ErrT w) (ht : w.heap[tb]? = some (.cells #[o0, o1] 106 (0, 0))) :
    Calls Tryd.prog 56 #[.iface 106 (.agg #[.int .i64 x, .int .i64 y]), .iface 108 (.pointer (some ⟨tb, 0, none⟩))] w fun ev w' => ev = .returned (.bool true) ∧ Below tb w w' := by
  have htl : tb < w.heap.size := lt_of_block ht
  have n1 : Below w.heap.size w (w.alloc (.cells #[.pointer (some ⟨tb, 0, none⟩)] 108)) := (Below.refl _ _).alloc (Nat.le_refl _) _
  have n2 := n1.alloc n1.size (.cells #[.pointer (some ⟨2, 108, none⟩), .pointer (some ⟨w.heap.size, 0, none⟩), .int .u64 150] 118)
  have n3 := n2.alloc n2.size (.cells #[.pointer (some ⟨2, 108, none⟩), .pointer (some ⟨w.heap.size, 0, none⟩), .int .u64 150] 118)
  have n4 := n3.alloc n3.size (.cells #[.int .i64 x, .int .i64 y] 106)
  have b1 : Box 0 #[.pointer (some ⟨tb, 0, none⟩)] 108 (w.alloc (.cells #[.pointer (some ⟨tb, 0, none⟩)] 108)) w.heap.size := newBox (Nat.zero_le _)
  have b2 := b1.keep ((Below.refl _ _).alloc (Nat.le_refl _) (.cells #[.pointer (some ⟨2, 108, none⟩), .pointer (some ⟨w.heap.size, 0, none⟩), .int .u64 150] 118))
  have b3 := b2.keep ((Below.refl _ _).alloc (Nat.le_refl _) (.cells #[.pointer (some ⟨2, 108, none⟩), .pointer (some ⟨w.heap.size, 0, none⟩), .int .u64 150] 118))
  have c2 := b2.at 0 (.pointer (some ⟨tb, 0, none⟩)) rfl
  have c3 := b3.at 0 (.pointer (some ⟨tb, 0, none⟩)) rfl
  have n8 := asIsNil ⟨w.heap.size, 0, none⟩ ⟨tb, 0, none⟩ _ c2
  have el := asElemV ⟨w.heap.size, 0, none⟩ ⟨tb, 0, none⟩ _ c3
  have hg2 := (n2.cell (p := ⟨1, 0, none⟩) (World.block_lt_of_cell? _ _ hg)).trans hg
  have bO := newBox (lo := 0) (cs := #[.int .i64 x, .int .i64 y]) (T := 106) (W := (((w.alloc (.cells #[.pointer (some ⟨tb, 0, none⟩)] 108)).alloc (.cells #[.pointer (some ⟨2, 108, none⟩), .pointer (some ⟨w.heap.size, 0, none⟩), .int .u64 150] 118)).alloc (.cells #[.pointer (some ⟨2, 108, none⟩), .pointer (some ⟨w.heap.size, 0, none⟩), .int .u64 150] 118))) (Nat.zero_le _)
  have st := asSet tb _ x y o0 o1 _ bO.2 ((n4.block tb htl).trans ht)
  have es : (((w.alloc (.cells #[.pointer (some ⟨tb, 0, none⟩)] 108)).alloc (.cells #[.pointer (some ⟨2, 108, none⟩), .pointer (some ⟨w.heap.size, 0, none⟩), .int .u64 150] 118)).alloc (.cells #[.pointer (some ⟨2, 108, none⟩), .pointer (some ⟨w.heap.size, 0, none⟩), .int .u64 150] 118)).heap.size = w.heap.size + 1 + 1 + 1 := by simp
  rw [es] at st
  have HB := hide (below_setRow (n4.mono (Nat.le_of_lt htl)) (Nat.le_refl _) #[.int .i64 x, .int .i64 y])
  have h6 := @run_callFunc_extern Tryd.prog 70 _ (fun args => ReflectliteValue.unpack (args.getD 0 (.tuple #[]))) Tryd.func70 (by kernel_rfl) (by kernel_rfl) (by kernel_rfl) (by kernel_rfl)
  have h7 := @run_callFunc_extern Tryd.prog 71 _ (ReflectliteValue.methodAny (ReflectliteValue.valueError "reflectlite.Value.Type" 0) (fun t _ _ _ => ReflectliteType.toType t)) Tryd.func71 (by kernel_rfl) (by kernel_rfl) (by kernel_rfl) (by kernel_rfl)
  have h8 := @run_callFunc_extern Tryd.prog 72 _ (ReflectliteValue.method (ReflectliteValue.valueError "reflectlite.Value.IsNil" 0) ReflectliteValue.isNil) Tryd.func72 (by kernel_rfl) (by kernel_rfl) (by kernel_rfl) (by kernel_rfl)
  have h27 := @run_callFunc_extern Tryd.prog 94 _ (ReflectliteType.abiMethod fun t => do pure (.int .u8 (← Rtype.kind t))) Tryd.func94 (by kernel_rfl) (by kernel_rfl) (by kernel_rfl) (by kernel_rfl)
  have h37 := @run_callFunc_extern Tryd.prog 106 _ (ReflectliteType.method ReflectliteType.elem) Tryd.func106 (by kernel_rfl) (by kernel_rfl) (by kernel_rfl) (by kernel_rfl)
  have h38 := @run_callFunc_extern Tryd.prog 107 _ (ReflectliteType.relation "Implements" ReflectliteType.implements_) Tryd.func107 (by kernel_rfl) (by kernel_rfl) (by kernel_rfl) (by kernel_rfl)
  have h10 := @run_callFunc_extern Tryd.prog 77 _ ReflectliteType.typeOf Tryd.func77 (by kernel_rfl) (by kernel_rfl) (by kernel_rfl) (by kernel_rfl)
  have h35 := @run_callFunc_extern Tryd.prog 104 _ (ReflectliteType.relation "AssignableTo" ReflectliteType.assignableTo) Tryd.func104 (by kernel_rfl) (by kernel_rfl) (by kernel_rfl) (by kernel_rfl)
  have h11 := @run_callFunc_extern Tryd.prog 78 _ (ReflectliteValue.method (ReflectliteValue.valueError "reflectlite.Value.Elem" 0) ReflectliteValue.elem) Tryd.func78 (by kernel_rfl) (by kernel_rfl) (by kernel_rfl) (by kernel_rfl)
  have h12 := @run_callFunc_extern Tryd.prog 79 _ ReflectliteValue.set Tryd.func79 (by kernel_rfl) (by kernel_rfl) (by kernel_rfl) (by kernel_rfl)
  have tO := asTypeO
  have mA := asMAssign
  have aO := asAssO
  have vO := asOfO
  have f6 := asOf
  have f7 := asType
  have mK := asMKind
  have mE := asMElem
  have mI := asMImpl
  have kP := asKindP
  have kO := asKindO
  have eT := asElemT
  have iO := asImpl
  clear ht hg n1 n2 n3 n4 b1 b2 b3 c2 c3 bO es
  go_enter Tryd.func56, Tryd.ntmps56
  go_wp2
  refine wp_loop_rounds 1 ?_
  rw [rounds_succ]
  go_wp2
  go_ret
  exact ⟨rfl, unhide HB⟩

end Go.Proofs.YtkodenmpadehjaaDoor

namespace Go.Proofs.YtkodenmpadehjaaDoor
open Go.RowKit Go.Extern.Stop Go.Stop Go.Extern

set_option maxHeartbeats 4000000 in
set_option maxRecDepth 100000 in
/-- errors.As at an error of errors.New's make. -/
theorem as_miss (e : Addr) (tb : Nat) (w : World) (hg : ErrT w) :
    Calls Tryd.prog 56 #[.iface 143 (.pointer (some e)), .iface 108 (.pointer (some ⟨tb, 0, none⟩))] w fun ev w' => ev = .returned (.bool false) ∧ Below w.heap.size w w' := by
  have n1 : Below w.heap.size w (w.alloc (.cells #[.pointer (some ⟨tb, 0, none⟩)] 108)) := (Below.refl _ _).alloc (Nat.le_refl _) _
  have n2 := n1.alloc n1.size (.cells #[.pointer (some ⟨2, 108, none⟩), .pointer (some ⟨w.heap.size, 0, none⟩), .int .u64 150] 118)
  have n3 := n2.alloc n2.size (.cells #[.pointer (some ⟨2, 108, none⟩), .pointer (some ⟨w.heap.size, 0, none⟩), .int .u64 150] 118)
  have b1 : Box 0 #[.pointer (some ⟨tb, 0, none⟩)] 108 (w.alloc (.cells #[.pointer (some ⟨tb, 0, none⟩)] 108)) w.heap.size := newBox (Nat.zero_le _)
  have b2 := b1.keep ((Below.refl _ _).alloc (Nat.le_refl _) (.cells #[.pointer (some ⟨2, 108, none⟩), .pointer (some ⟨w.heap.size, 0, none⟩), .int .u64 150] 118))
  have c2 := b2.at 0 (.pointer (some ⟨tb, 0, none⟩)) rfl
  have n8 := asIsNil ⟨w.heap.size, 0, none⟩ ⟨tb, 0, none⟩ _ c2
  have hg2 := (n2.cell (p := ⟨1, 0, none⟩) (World.block_lt_of_cell? _ _ hg)).trans hg
  have HB := hide n3
  have h6 := @run_callFunc_extern Tryd.prog 70 _ (fun args => ReflectliteValue.unpack (args.getD 0 (.tuple #[]))) Tryd.func70 (by kernel_rfl) (by kernel_rfl) (by kernel_rfl) (by kernel_rfl)
  have h7 := @run_callFunc_extern Tryd.prog 71 _ (ReflectliteValue.methodAny (ReflectliteValue.valueError "reflectlite.Value.Type" 0) (fun t _ _ _ => ReflectliteType.toType t)) Tryd.func71 (by kernel_rfl) (by kernel_rfl) (by kernel_rfl) (by kernel_rfl)
  have h8 := @run_callFunc_extern Tryd.prog 72 _ (ReflectliteValue.method (ReflectliteValue.valueError "reflectlite.Value.IsNil" 0) ReflectliteValue.isNil) Tryd.func72 (by kernel_rfl) (by kernel_rfl) (by kernel_rfl) (by kernel_rfl)
  have h27 := @run_callFunc_extern Tryd.prog 94 _ (ReflectliteType.abiMethod fun t => do pure (.int .u8 (← Rtype.kind t))) Tryd.func94 (by kernel_rfl) (by kernel_rfl) (by kernel_rfl) (by kernel_rfl)
  have h37 := @run_callFunc_extern Tryd.prog 106 _ (ReflectliteType.method ReflectliteType.elem) Tryd.func106 (by kernel_rfl) (by kernel_rfl) (by kernel_rfl) (by kernel_rfl)
  have h38 := @run_callFunc_extern Tryd.prog 107 _ (ReflectliteType.relation "Implements" ReflectliteType.implements_) Tryd.func107 (by kernel_rfl) (by kernel_rfl) (by kernel_rfl) (by kernel_rfl)
  have h10 := @run_callFunc_extern Tryd.prog 77 _ ReflectliteType.typeOf Tryd.func77 (by kernel_rfl) (by kernel_rfl) (by kernel_rfl) (by kernel_rfl)
  have h35 := @run_callFunc_extern Tryd.prog 104 _ (ReflectliteType.relation "AssignableTo" ReflectliteType.assignableTo) Tryd.func104 (by kernel_rfl) (by kernel_rfl) (by kernel_rfl) (by kernel_rfl)
  have tO := asTypeE
  have mA := asMAssign
  have aO := asAssE
  have q1 := fun (v : Value) (w : World) => run_typeAssert_lacksB (P := Tryd.prog) (t := 143) (z := .nilIface) Tryd.underlying135 (by kernel_rfl) (by kernel_rfl) v 76 w
  have q2 := fun (v : Value) (w : World) => run_typeAssert_lacksB (P := Tryd.prog) (t := 143) (z := .nilIface) Tryd.underlying138 (by kernel_rfl) (by kernel_rfl) v 76 w
  have q3 := fun (v : Value) (w : World) => run_typeAssert_lacksB (P := Tryd.prog) (t := 143) (z := .nilIface) Tryd.underlying140 (by kernel_rfl) (by kernel_rfl) v 76 w
  have f6 := asOf
  have f7 := asType
  have mK := asMKind
  have mE := asMElem
  have mI := asMImpl
  have kP := asKindP
  have kO := asKindO
  have eT := asElemT
  have iO := asImpl
  clear hg n1 n2 n3 b1 b2 c2
  go_enter Tryd.func56, Tryd.ntmps56
  go_wp2
  refine wp_loop_rounds 1 ?_
  rw [rounds_succ]
  go_wp2
  go_ret
  exact ⟨rfl, unhide HB⟩

set_option maxRecDepth 10000 in
/-- refusalCode of the program, of a number that was skipped. -/
theorem refusal_old (x y : Int) (w : World) (hg : ErrT w) : Calls Tryd.prog 34 #[.iface 106 (.agg #[.int .i64 x, .int .i64 y])] w fun e w' => e = .returned (.int .i64 7) ∧ Below w.heap.size w w' := by
  have n1 : Below w.heap.size w (w.alloc (.cells #[.int .i64 0, .int .i64 0] 106)) := (Below.refl _ _).alloc (Nat.le_refl _) _
  have bB := newBox (lo := 0) (cs := #[.int .i64 0, .int .i64 0]) (T := 106) (W := w) (Nat.zero_le _)
  have HL := hide (as_hit x y w.heap.size _ _ _ ((n1.cell (p := ⟨1, 0, none⟩) (World.block_lt_of_cell? _ _ hg)).trans hg) bB.2)
  have HB := hide n1
  clear n1 bB hg
  go_enter Tryd.func34, Tryd.ntmps34
  go_wp2_with fail
  refine (unhide HL).mono ?_
  rintro e w2 ⟨rfl, hb⟩
  have HB2 := hide ((unhide HB).trans hb)
  clear hb HL HB
  go_wp2_with fail
  go_ret
  exact ⟨rfl, unhide HB2⟩

set_option maxRecDepth 10000 in
/-- refusalCode of the program, where there is no room. -/
theorem refusal_full (e : Addr) (w : World) (hg : ErrT w) : Calls Tryd.prog 34 #[.iface 143 (.pointer (some e))] w fun e w' => e = .returned (.int .i64 2) ∧ Below w.heap.size w w' := by
  have n1 : Below w.heap.size w (w.alloc (.cells #[.int .i64 0, .int .i64 0] 106)) := (Below.refl _ _).alloc (Nat.le_refl _) _
  have HL := hide (as_miss e w.heap.size _ ((n1.cell (p := ⟨1, 0, none⟩) (World.block_lt_of_cell? _ _ hg)).trans hg))
  have HB := hide n1
  clear n1 hg
  go_enter Tryd.func34, Tryd.ntmps34
  go_wp2_with fail
  refine (unhide HL).mono ?_
  rintro e w2 ⟨rfl, hb⟩
  have HB2 := hide ((unhide HB).trans (hb.mono (unhide HB).size))
  clear hb HL HB
  go_wp2_with fail
  go_ret
  exact ⟨rfl, unhide HB2⟩

end Go.Proofs.YtkodenmpadehjaaDoor
