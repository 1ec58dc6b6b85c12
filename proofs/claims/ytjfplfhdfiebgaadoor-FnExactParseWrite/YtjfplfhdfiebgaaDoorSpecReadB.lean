/-
  What the model's l3Read tells, in plain words, and what its last region needs.
  No condition.
-/
import Derived.Test.YtjfplfhdfiebgaaDoorParse
import Derived.Test.YtjfplfhdfiebgaaDoorCutSp
import Derived.Test.YtjfplfhdfiebgaaDoorWTextPlain
import Derived.Test.YtjfplfhdfiebgaaDoorLayInt
import Derived.Test.YtjfplfhdfiebgaaDoorGround
import Derived.Deep.RegionHeld3
namespace Go.Proofs.YtjfplfhdfiebgaaDoor
open Go.RowKit

/-- Whether the three numbers are written so, and the write has no fault. -/
def tailOk (k : Int) (zs : List Int) (a b c : Bytes) : Bool := ((numR a).2 && (numR b).2 && (numR c).2) && (writeFault k (numR a).1 zs (numR b).1 (numR c).1 == 0)
def tailW (k : Int) (zs : List Int) (a b c : Bytes) : DWrite := ⟨k, (numR a).1, zs, (numR b).1, (numR c).1⟩

/-- What l3Read tells: a write, whether it is right. -/
def ToldR (w w' : World) (e : Ending) (x : DWrite) (ok : Bool) : Prop := ∃ cs, e = .returned (.tuple #[.agg cs.toArray, .bool ok]) ∧ Lay.tWrite.LiesIn w' cs x w.heap.size w'.heap.size ∧ Below w.heap.size w w'

theorem readsR {w : World} {x : DWrite} {v : Value} {lo hi : Nat} (h : (Lay.sl Lay.int).LiesIn w [v] x.vec lo hi) (h1 : (Lit.int .i64 x.kind).wf = true) (h2 : (Lit.int .i64 x.id).wf = true) (h3 : (Lit.int .i64 x.session).wf = true) (h4 : (Lit.int .i64 x.seq).wf = true) :
    Lay.tWrite.LiesIn w [.int .i64 x.kind, .int .i64 x.id, v, .int .i64 x.session, .int .i64 x.seq] x lo hi := by
  obtain ⟨bl, hl, hb⟩ := h
  have hl' := hl
  obtain ⟨ao, cap, e, -⟩ := hl'
  obtain rfl : v = .slice ao x.vec.length cap := by simpa using e
  exact ⟨bl, lies_Write.2 ⟨ao, cap, bl, rfl, rfl, h1, h2, hl, h3, h4⟩, hb⟩

/-- A write stored into the result's own block: what is known of the others stays. -/
theorem storeR {w wa : World} {sx hi : Nat} {xs cs : Array Value} {T T2 : TypeId} {cv : List Value} {zs : List Int} {vs : List Value} (hb : Below w.heap.size w wa) (bX : Box 0 xs T wa sx) (bR : Box 0 cs T2 wa w.heap.size) (hv : (Lay.sl Lay.int).LiesIn wa cv zs (sx + 1) hi) (hz : hi ≤ wa.heap.size) (hsx : w.heap.size < sx) (hl : cs.size = vs.length) :
    Below w.heap.size w (setAll wa w.heap.size 0 vs) ∧ Box 0 xs T (setAll wa w.heap.size 0 vs) sx ∧ (∃ cs' : Array Value, cs'.size = vs.length ∧ Box 0 cs' T2 (setAll wa w.heap.size 0 vs) w.heap.size) ∧ (Lay.sl Lay.int).LiesIn (setAll wa w.heap.size 0 vs) cv zs (sx + 1) hi ∧ hi ≤ (setAll wa w.heap.size 0 vs).heap.size := by
  have E := ext_setAll (fun q => q = w.heap.size) (Ext.refl _ wa) w.heap.size 0 vs rfl
  refine ⟨below_setAll hb _ _ _ (Nat.le_refl _), bX.ext E (by omega), ?_, hv.ext E (fun k h1 _ h3 => by omega), by rw [size_setAll]; exact hz⟩
  have : ∀ (l : List Value) (i : Nat) (W : World) (c : Array Value), Box 0 c T2 W w.heap.size → ∃ c' : Array Value, c'.size = c.size ∧ Box 0 c' T2 (setAll W w.heap.size i l) w.heap.size := by
    intro l
    induction l with
    | nil => intro i W c h; exact ⟨c, rfl, h⟩
    | cons v l ih =>
      intro i W c h
      obtain ⟨c', h1, h2⟩ := ih (i + 1) _ _ (h.set i v)
      exact ⟨c', by rw [h1]; simp, h2⟩
  obtain ⟨c', h1, h2⟩ := this vs 0 wa cs bR
  exact ⟨c', h1.trans hl, h2⟩

theorem str_of_list {s : ByteArray} {l : List UInt8} (h : s.toList = l) : s = ⟨l.toArray⟩ := by
  obtain ⟨⟨x⟩⟩ := s
  subst h
  simp

theorem own_big {w : World} {base T : Nat} {v : Value} {zs : List Int} (h : w.ownsRow base T 1 v zs.length (zs.map (Value.int .i64))) : zs.length ≤ 9223372036854775807 := by
  rcases h.2 with ⟨-, h0⟩ | ⟨g, cap, cur, -, -, -, h1, h2, -⟩
  · omega
  · unfold maxLen at h2; omega

/-- append of texts that lie somewhere onto a row of texts of the call's own, at a step of a region that draws its order. -/
theorem step_append_at {w1 : World} {base : Nat} {v : Value} {n : Nat} {xs : List Value} (hown : w1.ownsRow base 9 1 v n xs) (ad : Addr) (m c : Nat) (news : List Value) {ops : Array Oper} {o : Oper} {a : Act} {K : Act → World → Prop} {Q : Exit → Act → World → Prop} {E : Prop} (hgd : o.guard = none) (s x : Operand)
    (ho : o.op = .call { callee := .builtin .append, args := #[s, x], argTypes := #[49, 49] }) (hs : a.eval s = v) (hx : a.eval x = .slice (some ad) m c) (hl : news.length = m) (hnews : ∀ (j : Nat) (u : Value), news[j]? = some u → w1.cell? (ad.add j) = some u) (h1 : ∀ u ∈ news, u.oneCell' = true) (hm0 : 0 < m)
    (hn : n + m ≤ 100000000) (hbase : base ≤ w1.heap.size)
    (h : ∀ g cap w', w'.ownsRow base 9 1 (.slice (some ⟨g, 0, none⟩) (n + m) cap) (n + m) (xs ++ news) → Below base w1 w' → g < w'.heap.size → w1.heap.size ≤ w'.heap.size → K (a.put o.dst (.slice (some ⟨g, 0, none⟩) (n + m) cap)) w') :
    if Region.wanted o (yielded ops a.tmps) = true then Oper.wp Tryd.prog o a w1 K Q else E := by
  obtain ⟨i0, hi0, hz0, hz1, hz2⟩ := info_parts infoSt
  refine step_append_lies _ hgd s x 49 ho base 9 i0 _ 1 16 Tryd.underlying49 hi0 hz0 hz1 hz2 rfl (by omega) v n xs hs hown ad m c news hx (by omega) hnews h1 hm0 (by unfold maxLen; omega) (by omega) hbase w1.heap.size rfl ?_
  intro g cap w' h2 h3 _ h5
  exact h g cap w' h2 ((Below.refl _ _).grown h3 hbase (fun j hj => (hown.lt j hj).1)) h5 h3.size

/-- The kind and the vector stored into the write: what is known stays. -/
theorem storeP {w w3 : World} {sx : Nat} {k0 i0 v0 s0 q0 : Value} {T T2 : TypeId} {cs : Array Value} {cv : List Value} {zs : List Int} (k v : Value) (hsx : w.heap.size < sx) (bX : Box 0 #[k0, i0, v0, s0, q0] T w3 sx) (bR : Box 0 cs T2 w3 w.heap.size) (hb : Below w.heap.size w w3) (hv : (Lay.sl Lay.int).LiesIn w3 cv zs (sx + 1) w3.heap.size) :
    Box 0 #[k, i0, v, s0, q0] T ((w3.setCell ⟨sx, 0, none⟩ k).setCell ⟨sx, 2, none⟩ v) sx ∧ Box 0 cs T2 ((w3.setCell ⟨sx, 0, none⟩ k).setCell ⟨sx, 2, none⟩ v) w.heap.size ∧ Below w.heap.size w ((w3.setCell ⟨sx, 0, none⟩ k).setCell ⟨sx, 2, none⟩ v) ∧ (Lay.sl Lay.int).LiesIn ((w3.setCell ⟨sx, 0, none⟩ k).setCell ⟨sx, 2, none⟩ v) cv zs (sx + 1) ((w3.setCell ⟨sx, 0, none⟩ k).setCell ⟨sx, 2, none⟩ v).heap.size := by
  have b1 := (bX.set 0 k).set 2 v
  have E : Ext (fun q => q = sx) w3 ((w3.setCell ⟨sx, 0, none⟩ k).setCell ⟨sx, 2, none⟩ v) := ((Ext.refl (fun q => q = sx) w3).setCell ⟨sx, 0, none⟩ k rfl).setCell ⟨sx, 2, none⟩ v rfl
  have hs := E.size
  refine ⟨by simpa using b1, bR.ext E (by omega), hb.trans (E.below hb.size (fun k hk h => by omega)), (hv.ext E (fun q h1 h2 h3 => by omega)).mono (Nat.le_refl _) hs⟩

/-- Three numbers stored into the write: what is known stays. -/
theorem storeX {w w3 : World} {sx : Nat} {k0 i0 v0 s0 q0 : Value} {T T2 : TypeId} {cs : Array Value} {cv : List Value} {zs : List Int} (na ns nq : Value) (hsx : w.heap.size < sx) (bX : Box 0 #[k0, i0, v0, s0, q0] T w3 sx) (bR : Box 0 cs T2 w3 w.heap.size) (hb : Below w.heap.size w w3) (hv : (Lay.sl Lay.int).LiesIn w3 cv zs (sx + 1) w3.heap.size) :
    Box 0 #[k0, na, v0, ns, nq] T (((w3.setCell ⟨sx, 1, none⟩ na).setCell ⟨sx, 3, none⟩ ns).setCell ⟨sx, 4, none⟩ nq) sx ∧ Box 0 cs T2 (((w3.setCell ⟨sx, 1, none⟩ na).setCell ⟨sx, 3, none⟩ ns).setCell ⟨sx, 4, none⟩ nq) w.heap.size ∧ Below w.heap.size w (((w3.setCell ⟨sx, 1, none⟩ na).setCell ⟨sx, 3, none⟩ ns).setCell ⟨sx, 4, none⟩ nq) ∧ (Lay.sl Lay.int).LiesIn (((w3.setCell ⟨sx, 1, none⟩ na).setCell ⟨sx, 3, none⟩ ns).setCell ⟨sx, 4, none⟩ nq) cv zs (sx + 1) (((w3.setCell ⟨sx, 1, none⟩ na).setCell ⟨sx, 3, none⟩ ns).setCell ⟨sx, 4, none⟩ nq).heap.size := by
  have b1 := ((bX.set 1 na).set 3 ns).set 4 nq
  have E : Ext (fun q => q = sx) w3 (((w3.setCell ⟨sx, 1, none⟩ na).setCell ⟨sx, 3, none⟩ ns).setCell ⟨sx, 4, none⟩ nq) := (((Ext.refl (fun q => q = sx) w3).setCell ⟨sx, 1, none⟩ na rfl).setCell ⟨sx, 3, none⟩ ns rfl).setCell ⟨sx, 4, none⟩ nq rfl
  have hs := E.size
  refine ⟨by simpa using b1, bR.ext E (by omega), hb.trans (E.below hb.size (fun k hk h => by omega)), (hv.ext E (fun q h1 h2 h3 => by omega)).mono (Nat.le_refl _) hs⟩

end Go.Proofs.YtjfplfhdfiebgaaDoor
