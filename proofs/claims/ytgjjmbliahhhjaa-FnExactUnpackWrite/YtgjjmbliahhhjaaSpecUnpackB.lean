/-
  The model's UnpackWrite: the write whose words a list is; nothing old is written.
  No condition.
-/
import Derived.Test.YtgjjmbliahhhjaaUnpackPlain
import Derived.Test.YtgjjmbliahhhjaaPackFacts
import Derived.Test.YtgjjmbliahhhjaaSpecInts
import Derived.Deep.RegionHeld3
namespace Go.Proofs.Ytgjjmbliahhhjaa
open Go.RowKit

/-- What l3Unpack tells: a write, whether it is right. -/
def ToldU (w w' : World) (e : Ending) (x : DWrite) (ok : Bool) : Prop := ∃ cs, e = .returned (.tuple #[.agg cs.toArray, .bool ok]) ∧ Lay.tWrite.LiesIn w' cs x w.heap.size w'.heap.size ∧ Below w.heap.size w w'

theorem readsW {w : World} {x : DWrite} {v : Value} {lo hi : Nat} (h : (Lay.sl Lay.int).LiesIn w [v] x.vec lo hi) (h1 : (Lit.int .i64 x.kind).wf = true) (h2 : (Lit.int .i64 x.id).wf = true) (h3 : (Lit.int .i64 x.session).wf = true) (h4 : (Lit.int .i64 x.seq).wf = true) :
    Lay.tWrite.LiesIn w [.int .i64 x.kind, .int .i64 x.id, v, .int .i64 x.session, .int .i64 x.seq] x lo hi := by
  obtain ⟨bl, hl, hb⟩ := h
  have hl' := hl
  obtain ⟨ao, cap, e, -⟩ := hl'
  obtain rfl : v = .slice ao x.vec.length cap := by simpa using e
  exact ⟨bl, lies_Write.2 ⟨ao, cap, bl, rfl, rfl, h1, h2, hl, h3, h4⟩, hb⟩

/-- A write stored into the result's own block: what is known of the others stays. -/
theorem storeS {w wa : World} {sx hi : Nat} {xs cs : Array Value} {T T2 : TypeId} {cv : List Value} {zs : List Int} {vs : List Value} (hb : Below w.heap.size w wa) (bX : Box 0 xs T wa sx) (bR : Box 0 cs T2 wa w.heap.size) (hv : (Lay.sl Lay.int).LiesIn wa cv zs (sx + 1) hi) (hz : hi ≤ wa.heap.size) (hsx : w.heap.size < sx) (hl : cs.size = vs.length) :
    Below w.heap.size w (setAll wa w.heap.size 0 vs) ∧ Box 0 xs T (setAll wa w.heap.size 0 vs) sx ∧ (∃ cs' : Array Value, cs'.size = vs.length ∧ Box 0 cs' T2 (setAll wa w.heap.size 0 vs) w.heap.size) ∧ (Lay.sl Lay.int).LiesIn (setAll wa w.heap.size 0 vs) cv zs (sx + 1) hi ∧ hi ≤ (setAll wa w.heap.size 0 vs).heap.size := by
  have E := ext_setAll (fun q => q = w.heap.size) (Ext.refl _ wa) w.heap.size 0 vs rfl
  refine ⟨below_setAll hb _ _ _ (Nat.le_refl _), bX.ext E (by omega), ?_, hv.ext E (fun k h1 _ h3 => by omega), by rw [size_setAll]; exact hz⟩
  have : ∀ (l : List Value) (i : Nat) (W : World) (c : Array Value), Box 0 c T2 W w.heap.size → ∃ c' : Array Value, c'.size = c.size ∧ Box 0 c' T2 (setAll W w.heap.size i l) w.heap.size := by
    intro l
    induction l with
    | nil => intro i W c h; exact ⟨c, rfl, h⟩
    | cons v l ih =>
      intro i W c h
      obtain ⟨c', h1, h2⟩ := ih (i + 1) _ _ (h.set i v)
      exact ⟨c', by rw [h1]; simp, h2⟩
  obtain ⟨c', h1, h2⟩ := this vs 0 wa cs bR
  exact ⟨c', h1.trans hl, h2⟩

end Go.Proofs.Ytgjjmbliahhhjaa
