/-
  The draw DrawPutItem: some items, an id, some numbers.
  Condition: the code is at most 1048576 long.
-/
import Derived.Test.YteekfapjfpkidabDrawTab
namespace Go.Proofs.Yteekfapjfpkidab
open Go.RowKit

def sliceLen : Value → Nat
  | .slice _ n _ => n
  | _ => 0
theorem later4 (ao : Option Addr) (len cap : Nat) (w : World) :
    Calls Try.prog 64 #[.slice ao len cap, .int .i64 4] w fun e w' => e = .returned (.pointer (some ⟨w.heap.size, 0, none⟩)) ∧ w.alloc (.cells #[.slice ao len cap, .int .i64 33] 145) = w' := by
  go_enter Try.func64, Try.ntmps64
  go_wp2
  go_ret
  exact ⟨rfl, rfl⟩
theorem chance (b m : Nat) (cv : Value) (w : World) (hs : SrcAt w b cv m) (hc : IsCode b w cv) (hm : m ≤ 100000000) (n : Int) (hn : 1 ≤ n) (hn2 : n ≤ 200) :
    Calls Try.prog 65 #[.pointer (some ⟨b, 0, none⟩), .int .i64 n] w fun e w' => ∃ r : Bool, e = .returned (.bool r) ∧ SrcAt w' b cv (m + 1) ∧ IsCode b w' cv ∧ w.grownBy w' (some b) := by
  have HL := hide (next b m cv n w hs hc (by omega) hn hn2)
  clear hs hc
  go_enter Try.func65, Try.ntmps65
  go_wp2_with fail
  refine (unhide HL).mono ?_
  rintro e w1 ⟨r, rfl, hr, s1, c1, g1⟩
  have HS := hide s1
  have HC := hide c1
  have HG := hide g1
  clear s1 c1 g1 HL
  go_wp2_with fail
  go_ret
  exact ⟨_, rfl, unhide HS, unhide HC, unhide HG⟩
theorem Grow.away {α : Type} {A : Lay α} {w w' : World} {base T b : Nat} {v : Value} {rows : List (List Value)} {xs : List α} {bls : List (List Nat)} (h : Grow A w base T v rows xs bls) (hg : w.grownBy w' (some b)) (hv : v.ownBlock ≠ some b) (hs : ∀ c ∈ bls.flatten, c ≠ b) : Grow A w' base T v rows xs bls :=
  h.kept (h.own.kept hg (Or.inr hv)) fun c hc => hg.block c (h.sub_lt c hc) (fun e => hs c hc (Option.some.inj e))
theorem IsCode.up {B B' : Nat} {w : World} {cv : Value} (h : IsCode B w cv) (hB : B ≤ B') : IsCode B' w cv := by
  obtain ⟨ao, len, cap, rfl, hl, hc⟩ := h
  refine ⟨ao, len, cap, rfl, hl, fun hp => ?_⟩
  obtain ⟨b, off, hao, hb, h1⟩ := hc hp
  exact ⟨b, off, hao, Nat.lt_of_lt_of_le hb hB, h1⟩
theorem vec123 (w : World) (b : Nat) (h : w.heap[b]? = some (.cells #[.int .i64 1, .int .i64 2, .int .i64 3] 2 (0, 0))) : (Lay.sl Lay.int).lies w [.slice (some ⟨b, 0, none⟩) 3 3] [1, 2, 3] [b] := by
  refine Lay.lies_ints.2 ⟨some ⟨b, 0, none⟩, 3, rfl, by simp, ?_, Or.inr ⟨b, 0, rfl, lt_of_block h, rfl, fun j hj => ?_⟩⟩
  · intro z hz
    simp only [List.mem_cons, List.not_mem_nil, or_false] at hz
    exact wf_of_bd (by omega)
  · rw [cell_of_row w b (0 + j) _ _ _ h]
    have hj3 : j < 3 := hj
    rcases (show j = 0 ∨ j = 1 ∨ j = 2 by omega) with rfl | rfl | rfl <;> rfl

/-- What DrawPutItem gives. -/
def PutPost (w : World) (e : Ending) (w' : World) : Prop :=
  ∃ (v : Value) (xs : List DItem) (id : Int) (u : Value) (zs : List Int), e = .returned (.tuple #[v, .int .i64 id, u]) ∧ (Lay.sl Lay.tItem).Reads w' [v] xs ∧ xs.length ≤ 31 ∧ (0 ≤ id ∧ id ≤ 999) ∧ (Lay.sl Lay.int).Reads w' [u] zs ∧ zs.length ≤ 4 ∧ Below w.heap.size w w'

set_option maxRecDepth 10000 in
set_option maxHeartbeats 1000000 in
theorem drawPut (ao : Option Addr) (len cap : Nat) (w : World) (hc : IsCode w.heap.size w (.slice ao len cap)) :
    Calls Try.prog 28 #[.slice ao len cap] w (PutPost w) := by
  have HL := hide (drawTwo ao len cap w hc)
  have HC0 := hide hc
  clear hc
  go_enter Try.func28, Try.ntmps28
  go_wp2_with fail
  refine (unhide HL).mono ?_
  rintro e w1 ⟨v, rows, xs, bls, id, rfl, hG, hlen, hid, hb⟩
  have hvs : v.ownBlock ≠ some w1.heap.size := fun e => by have := (hG.own.lt _ e).2; omega
  have hbs : ∀ c ∈ bls.flatten, c ≠ w1.heap.size := fun c hc => by have := hG.sub_lt c hc; omega
  have nb : Below w1.heap.size w1 (w1.alloc (.cells #[.slice ao len cap, .int .i64 33] 145)) := (Below.refl _ _).alloc (Nat.le_refl _) _
  have HG := hide (hG.later nb)
  have HB := hide (hb.trans (nb.mono hb.size))
  have hw1 : w.heap.size ≤ w1.heap.size := hb.size
  have HC := hide ((unhide HC0).later (hb.trans (nb.mono hb.size)))
  have HS : Hid (SrcAt (w1.alloc (.cells #[.slice ao len cap, .int .i64 33] 145)) w1.heap.size (.slice ao len cap) 33) := heap_alloc_new w1 _
  have HVS := hide hvs
  have HBS := hide hbs
  clear hG hb nb HL HC0 hvs hbs
  have hsh : ∃ a cp, v = .slice a xs.length cp := by
    obtain ⟨_, _, h⟩ := open_sl ((unhide HG).toReads (by omega))
    exact ⟨_, _, h⟩
  obtain ⟨av, cpv, rfl⟩ := hsh
  go_wp2_with fail
  refine (later4 ao len cap w1).mono ?_
  rintro e w2 ⟨rfl, rfl⟩
  generalize w1.alloc (.cells #[.slice ao len cap, .int .i64 33] 145) = w2 at *
  generalize w1.heap.size = s at *
  have HL := hide (chance s 33 _ w2 (unhide HS) ((unhide HC).up hw1) (by omega) 10 (by omega) (by omega))
  clear HS
  go_wp2_with fail
  refine (unhide HL).mono ?_
  rintro e w3 ⟨r, rfl, s3, -, g3⟩
  replace HG := hide ((unhide HG).away g3 (unhide HVS) (unhide HBS))
  have hb3 : Below w.heap.size w2 w3 := (Below.refl _ _).grown g3 (unhide HB).size (fun k hk => by simp at hk; omega)
  replace HB := hide ((unhide HB).trans hb3)
  replace HC := hide ((unhide HC).later hb3)
  have HS := hide s3
  clear s3 g3 hb3 HL
  cases r with
  | false =>
    have HL := hide (bent s 34 _ w3 (unhide HS) ((unhide HC).up hw1) (by omega))
    clear HS
    go_wp2_with fail
    refine (unhide HL).mono ?_
    rintro e w4 ⟨u, zs, m4, rfl, hzs, hNI, -, -, -, g4⟩
    have HR := hide (((unhide HG).away g4 (unhide HVS) (unhide HBS)).toReads (by omega))
    have hb4 : Below w.heap.size w3 w4 := (Below.refl _ _).grown g4 (unhide HB).size (fun k hk => by simp at hk; omega)
    replace HB := hide ((unhide HB).trans hb4)
    obtain ⟨bz, hlz, -⟩ := hNI.lies (by omega)
    have HU : Hid ((Lay.sl Lay.int).Reads w4 [u] zs) := ⟨bz, hlz⟩
    clear g4 hb4 hNI hlz HG HL HC
    go_wp2_with fail
    refine bodyPost_ret (v := .tuple #[.slice av xs.length cpv, .int .i64 id, u]) (by simp [results, Try.results28, go_sem]) rfl ?_
    exact ⟨_, xs, id, u, zs, rfl, unhide HR, hlen, hid, unhide HU, hzs, unhide HB⟩
  | true =>
    go_wp2_with fail
    go_loopw [5, 8] (fun v kk wr => ∃ (t cp : Nat) (a : Option Addr) (rows : List (List Value)) (xs : List DItem) (bls : List (List Nat)), kk = .int .i64 (100 + (t : Int)) ∧ v = .slice a xs.length cp ∧ t ≤ xs.length ∧ xs.length ≤ 31 ∧ Grow Lay.tItem wr w.heap.size 60 v rows xs bls ∧ v.ownBlock ≠ some s ∧ (∀ c ∈ bls.flatten, c ≠ s) ∧
        SrcAt wr s (.slice ao len cap) 34 ∧ IsCode w.heap.size wr (.slice ao len cap) ∧ Below w.heap.size w wr) (fun v _ _ => 31 - (sliceLen v))
    case atStart => exact ⟨0, cpv, av, rows, xs, bls, rfl, rfl, Nat.zero_le _, hlen, unhide HG, unhide HVS, unhide HBS, unhide HS, unhide HC, unhide HB⟩
    case round =>
      clear HG HVS HBS HS HC HB
      obtain ⟨t, cp, a, rows2, ys, bls2, rfl, rfl, ht, hyl, hG, hvs, hbs, hS, hC, hB⟩ := hrel
      have hsl := hS.lt
      by_cases hlt : ys.length < 30
      · have nb : Below wr.heap.size wr (wr.alloc (.cells #[.int .i64 1, .int .i64 2, .int .i64 3] 2)) := (Below.refl _ _).alloc (Nat.le_refl _) _
        have hl : Lay.tItem.lies (wr.alloc (.cells #[.int .i64 1, .int .i64 2, .int .i64 3] 2)) [.int .i64 (100 + (t : Int)), .slice (some ⟨wr.heap.size, 0, none⟩) 3 3] ⟨100 + (t : Int), [1, 2, 3]⟩ [wr.heap.size] :=
          lies_Item.2 ⟨_, 3, _, rfl, rfl, (show (Lit.int .i64 (100 + (t : Int))).wf = true from wf_of_bd (by omega)), vec123 _ _ (heap_alloc_new wr _)⟩
        have hoff : ∀ c ∈ [wr.heap.size], (Value.slice a ys.length cp).ownBlock ≠ some c := fun c hc e => by
          have h2 := (hG.own.lt c e).2
          simp at hc
          omega
        have hG2 := hG.later nb
        have HS := hide ((show SrcAt (wr.alloc (.cells #[.int .i64 1, .int .i64 2, .int .i64 3] 2)) s (.slice ao len cap) 34 from (nb.block s hsl).trans hS))
        have HC := hide (hC.later (nb.mono hB.size))
        have HB := hide (hB.trans (nb.mono hB.size))
        have HVS := hide hvs
        have HBS := hide (flat_snocI hbs (P := fun c => c ≠ s) (bl := [wr.heap.size]) (fun c hc => by simp at hc; omega))
        have hW : wr.heap.size < (wr.alloc (.cells #[.int .i64 1, .int .i64 2, .int .i64 3] 2)).heap.size := by simp
        have HZ : Hid (w.heap.size ≤ (wr.alloc (.cells #[.int .i64 1, .int .i64 2, .int .i64 3] 2)).heap.size) := (unhide HB).size
        have hW2 : (wr.alloc (.cells #[.int .i64 1, .int .i64 2, .int .i64 3] 2)).heap.size = wr.heap.size + 1 := by simp
        have d1 : decide ((ys.length : Int) < 30) = true := by simp; omega
        clear nb hG hvs hbs hS hC hB
        go_wp2_with (at_builtin; refine wpList_append_Item hG2 hl hoff rfl _ _ rfl rfl ((show _ = Value.slice (some ⟨wr.heap.size + 1, 0, none⟩) 1 1 from rfl).trans (by rw [hW2])) (by omega) (unhide HZ) ?_)
        intro g cap5 w5 hG5 hb5 hE5 hg5 hz5 hor5
        generalize hW0 : wr.alloc (.cells #[.int .i64 1, .int .i64 2, .int .i64 3] 2) = W at *
        have HG5 := hide hG5
        have HV5 : Hid ((Value.slice (some ⟨g, 0, none⟩) (ys.length + 1) cap5).ownBlock ≠ some s) := fun e => by
          have e1 : g = s := by simpa [Value.ownBlock] using e
          rcases hor5 with h | h
          · exact unhide HVS (by rw [h, e1])
          · omega
        have HS5 : Hid (SrcAt w5 s (.slice ao len cap) 34) := (hE5.block s (by omega) (fun e => unhide HVS e)).trans (unhide HS)
        have HC5 := hide ((unhide HC).later hb5)
        have HB5 := hide ((unhide HB).trans hb5)
        clear hG2 hl hoff hG5 hb5 hE5 hg5 hz5 hor5 HS HC HB HVS hW0
        go_wp2_with fail
        go_roundw
        case rel => exact ⟨t + 1, cap5, some ⟨g, 0, none⟩, rows2 ++ [_], ys ++ [⟨100 + (t : Int), [1, 2, 3]⟩], bls2 ++ [_], by go_num, by simp, by simp; omega, by simp; omega, unhide HG5, unhide HV5, unhide HBS, unhide HS5, unhide HC5, unhide HB5⟩
        case measure => simp [sliceLen]; omega
      · have HL := hide (bent s 34 _ wr hS (hC.up hw1) (by omega))
        have d1 : decide ((ys.length : Int) < 30) = false := by simp; omega
        have HG := hide hG
        have HVS := hide hvs
        have HBS := hide hbs
        have HB := hide hB
        clear hG hvs hbs hS hC hB
        go_wp2_with fail
        refine (unhide HL).mono ?_
        rintro e w4 ⟨u, zs, m4, rfl, hzs, hNI, -, -, -, g4⟩
        have HR := hide (((unhide HG).away g4 (unhide HVS) (unhide HBS)).toReads (by omega))
        have hb4 : Below w.heap.size wr w4 := (Below.refl _ _).grown g4 (unhide HB).size (fun k hk => by simp at hk; omega)
        replace HB := hide ((unhide HB).trans hb4)
        obtain ⟨bz, hlz, -⟩ := hNI.lies (by omega)
        have HU : Hid ((Lay.sl Lay.int).Reads w4 [u] zs) := ⟨bz, hlz⟩
        clear g4 hb4 hNI hlz HG HL
        go_wp2_with fail
        refine bodyPost_ret (v := .tuple #[.slice a ys.length cp, .int .i64 id, u]) (by simp [results, Try.results28, go_sem]) rfl ?_
        exact ⟨_, ys, id, u, zs, rfl, unhide HR, hyl, hid, unhide HU, hzs, unhide HB⟩

end Go.Proofs.Yteekfapjfpkidab
