/-
  Texts of this proof in one: ImplProbed, ImplCen, ImplNear, ImplListF, ImplForm, TakenPlain, HeldPlain.
  Their conditions stand in their theorems.
-/
import Derived.Test.YtfgadegpdknocaaGreatIs09
import Derived.Test.YtfgadegpdknocaaGreatIs11
import Derived.Test.YtfgadegpdknocaaGreatIs07
import Derived.Test.YtfgadegpdknocaaGreatChecked
import Derived.Test.YtfgadegpdknocaaGreatIs06
import Derived.Test.YtfgadegpdknocaaGreatIs10
import Derived.Test.YtfgadegpdknocaaGreatIs08

namespace Go.Proofs.YtfgadegpdknocaaGreat
open Go.RowKit

/-- The places, with what they hold. -/
def plOf (m : Nat) (d : List Nat) (h : ∀ p ∈ d, p < m) : List (Pl m) := d.pmap (fun j h => ⟨j, h⟩) h
theorem plOf_len {m : Nat} {d : List Nat} (h : ∀ p ∈ d, p < m) : (plOf m d h).length = d.length := by simp [plOf]
theorem plOf_at {m : Nat} {d : List Nat} (h : ∀ p ∈ d, p < m) (i : Nat) (hi : i < (plOf m d h).length) : (plOf m d h)[i].1 = d[i]'(by rw [plOf_len] at hi; exact hi) := by simp [plOf]
theorem plOf_map {m : Nat} {d : List Nat} (h : ∀ p ∈ d, p < m) : (plOf m d h).map (fun y => y.1) = d := by simp [plOf, List.map_pmap]
/-- What the iterator tells. -/
theorem probe_seq (x : DIvf) (ac : Option Addr) (dc : Nat) (al : Option Addr) (dl : Nat) (w3 : World) (G : Nat) (d : List Nat) {w W0 : World} (hB0 : Below w.heap.size w W0) (hW : w.heap.size ≤ W0.heap.size) (hH4 : Below W0.heap.size W0 ((w3.alloc (.cells #[.slice ac x.centers.length dc, .slice al x.lists.length dl] 31)).alloc (.cells #[.slice (some ⟨G, 0, none⟩) x.centers.length x.centers.length] 26)))
    (hls : (Lay.sl Lay.tIvfList).Reads w [.slice al x.lists.length dl] x.lists) (hln : x.lists.length = x.centers.length) (h6 : x.centers.length ≤ 6) (h1 : 1 ≤ x.centers.length) (hd2 : ∀ p, p ∈ d ↔ p < x.centers.length) (hd3 : d.length = x.centers.length) (hO3 : w3.ownsRow G 2 1 (.slice (some ⟨G, 0, none⟩) x.centers.length x.centers.length) x.centers.length (plV d)) :
    ∃ (zs : List (Pl x.lists.length)) (ia : Nat → Option Addr) (ic : Nat → Nat), zs.length = x.centers.length ∧ zs.map (fun y => y.1) = d ∧ True ∧ (∀ j, j < x.lists.length → (Lay.sl Lay.tItem).Reads w [.slice (ia j) (itsL x.lists j).length (ic j)] (itsL x.lists j)) ∧
      SeqStopsK Fence.wide 8 Tryz.prog 134 #[.pointer (some ⟨w3.heap.size + 1, 0, none⟩), .pointer (some ⟨w3.heap.size, 0, none⟩)] (fun y : Pl x.lists.length => #[.agg #[.int .i64 (y.1 : Int), .slice (ia y.1) (itsL x.lists y.1).length (ic y.1)]]) (KpS ((w3.alloc (.cells #[.slice ac x.centers.length dc, .slice al x.lists.length dl] 31)).alloc (.cells #[.slice (some ⟨G, 0, none⟩) x.centers.length x.centers.length] 26)).heap.size (fun _ => False)) (fun ys => ys = zs) (fun pre => pre <+: zs) zs.length ((w3.alloc (.cells #[.slice ac x.centers.length dc, .slice al x.lists.length dl] 31)).alloc (.cells #[.slice (some ⟨G, 0, none⟩) x.centers.length x.centers.length] 26)) := by
  obtain ⟨bL, oL, ia, ic, rfl, hbL, hli⟩ := lists_at hls (by omega)
  have hdm : ∀ p ∈ d, p < x.lists.length := fun p hp => by rw [hln]; exact (hd2 p).1 hp
  have hO4 := (hO3.alloc (.cells #[.slice ac x.centers.length dc, .slice (some ⟨bL, oL, none⟩) x.lists.length dl] 31)).alloc (.cells #[.slice (some ⟨G, 0, none⟩) x.centers.length x.centers.length] 26)
  have lG : G < w3.heap.size := (hO3.lt G rfl).2
  have bY : Box 0 #[.slice ac x.centers.length dc, .slice (some ⟨bL, oL, none⟩) x.lists.length dl] 31 ((w3.alloc (.cells #[.slice ac x.centers.length dc, .slice (some ⟨bL, oL, none⟩) x.lists.length dl] 31)).alloc (.cells #[.slice (some ⟨G, 0, none⟩) x.centers.length x.centers.length] 26)) w3.heap.size := (newBox (Nat.zero_le _)).grow _
  have bP : Box 0 #[.slice (some ⟨G, 0, none⟩) x.centers.length x.centers.length] 26 ((w3.alloc (.cells #[.slice ac x.centers.length dc, .slice (some ⟨bL, oL, none⟩) x.lists.length dl] 31)).alloc (.cells #[.slice (some ⟨G, 0, none⟩) x.centers.length x.centers.length] 26)) (w3.heap.size + 1) := newBoxAt (Nat.zero_le _) (by simp)
  have hszL : ((w3.alloc (.cells #[.slice ac x.centers.length dc, .slice (some ⟨bL, oL, none⟩) x.lists.length dl] 31)).alloc (.cells #[.slice (some ⟨G, 0, none⟩) x.centers.length x.centers.length] 26)).heap.size = w3.heap.size + 2 := by simp
  have hB4 := hB0.trans (hH4.mono hW)
  have hs4 := hH4.size
  generalize (w3.alloc (.cells #[.slice ac x.centers.length dc, .slice (some ⟨bL, oL, none⟩) x.lists.length dl] 31)).alloc (.cells #[.slice (some ⟨G, 0, none⟩) x.centers.length x.centers.length] 26) = WL at *
  refine ⟨plOf x.lists.length d hdm, ia, ic, by rw [plOf_len, hd3], plOf_map hdm, trivial, fun j hj => (hli j hj).2, ?_⟩
  refine listsAt_stops 8 (w3.heap.size + 1) w3.heap.size bL oL x.lists.length dl x.centers.length ia (fun j => (itsL x.lists j).length) ic G 0 (plOf x.lists.length d hdm) WL.heap.size (fun _ => False) (by rw [plOf_len]; omega) ⟨by omega, fun h => h⟩ ⟨by omega, fun h => h⟩ ⟨by omega, fun h => h⟩ WL (by omega) (Nat.le_refl _) ?_ ⟨bY.at 1 _ rfl, fun j hj => (hB4.cell (p := ⟨bL, oL + j, none⟩) hbL).trans (hli j hj).1, fun i hi => ?_⟩
  · rw [plOf_len, hd3]; exact bP.at 0 _ rfl
  · rw [plOf_at, Nat.zero_add]
    rw [plOf_len] at hi
    rw [hO4.cellAt i (by omega)]
    exact plV_at (List.getElem?_eq_getElem hi)

set_option maxRecDepth 100000 in
set_option maxHeartbeats 4000000 in
theorem probedC (x : DIvf) (q : List Int) (n : Nat) (ac : Option Addr) (dc : Nat) (al : Option Addr) (dl : Nat) (aq : Option Addr) (dq : Nat) (w : World) (h1 : (Lay.sl Lay.tCenter).Reads w [.slice ac x.centers.length dc] x.centers) (h2 : (Lay.sl Lay.tIvfList).Reads w [.slice al x.lists.length dl] x.lists) (h3 : (Lay.sl Lay.int).Reads w [.slice aq q.length dq] q) (hf : centersFault x.centers = 0) (HL : Hid (x.lists.length = x.centers.length)) (hq : vecFault q = 0) (hn : n ≤ 6) :
    Calls Tryz.prog 66 #[.agg #[.slice ac x.centers.length dc, .slice al x.lists.length dl], .slice aq q.length dq, .int .i64 (n : Int)] w fun e w' => ∃ (v : Value) (zs : List (Pl x.lists.length)) (ia : Nat → Option Addr) (ic : Nat → Nat), e = .returned v ∧ zs.map (fun y => (y.1 : Int)) = probesI x.centers q n ∧ (∀ j, j < x.lists.length → (Lay.sl Lay.tItem).Reads w [.slice (ia j) (itsL x.lists j).length (ic j)] (itsL x.lists j)) ∧ w'.ownsRow w.heap.size 110 2 v zs.length (cellsP ia (fun j => (itsL x.lists j).length) ic zs) ∧ Below w.heap.size w w' := by
  have nb : Below w.heap.size w (w.alloc (.cells #[.slice ac x.centers.length dc, .slice al x.lists.length dl] 31)) := (Below.refl _ _).alloc (Nat.le_refl _) _
  have bX : Box w.heap.size #[.slice ac x.centers.length dc, .slice al x.lists.length dl] 31 (w.alloc (.cells #[.slice ac x.centers.length dc, .slice al x.lists.length dl] 31)) w.heap.size := newBox (Nat.le_refl _)
  have HC6 : Hid (x.centers.length ≤ 6) := (centersFault_zero hf).1.2
  have HC1 : Hid (1 ≤ x.centers.length) := (centersFault_zero hf).1.1
  have hc6 := unhide HC6
  have HLN := HL
  have HN6 := hide hn
  have HLS := hide h2
  have HB0 := hide nb
  have HW : Hid (w.heap.size ≤ (w.alloc (.cells #[.slice ac x.centers.length dc, .slice al x.lists.length dl] 31)).heap.size) := nb.size
  have HBX := hide bX
  have LN : Hid (∀ W, Below (w.alloc (.cells #[.slice ac x.centers.length dc, .slice al x.lists.length dl] 31)).heap.size (w.alloc (.cells #[.slice ac x.centers.length dc, .slice al x.lists.length dl] 31)) W → _) := fun W hb => nearestPlacesC x.centers q ac dc aq dq W ((h1.later nb).later hb) ((h3.later nb).later hb) hf hq
  have LQ : Hid (∀ (a : Option Addr) (n c : Nat) (W : World), _) := fun (a : Option Addr) (n c : Nat) (W : World) => implListsAt (.slice ac x.centers.length dc) (.slice al x.lists.length dl) a n c W ⟨_, _, _, rfl⟩ ⟨_, _, _, rfl⟩
  clear h1 h2 h3 hf hq nb bX
  go_enter Tryz.func66, Tryz.ntmps66
  go_wp2_with fail
  generalize w.alloc (.cells #[.slice ac x.centers.length dc, .slice al x.lists.length dl] 31) = W0 at *
  refine wp_region_noPanic ?_
  refine wp_region_held_drew (S := fun w' => Below W0.heap.size W0 w') (by kernel_rfl) (Below.refl _ _).drew (fun hHeld => ?_)
  generalize W0.drew = wD at hHeld ⊢
  refine wpAnyH_take (i := 0) (oi := { dst := some 7, op := Go.Op.load 31 (Go.Operand.tmp 3), type := 31, pos := "l07_ivf.go:70", after := #[], guard := none }) (v := ?vp0) rfl (by kernel_rfl) (by kernel_rfl) (by kernel_rfl) (fun _ _ _ h => h) (Or.inl ⟨by rfl, ?hp0⟩) hHeld ?rp0
  case hp0 =>
    intro wS hSw
    have y0 := ((unhide HBX).keep hSw).at 0 _ rfl
    have y1 := ((unhide HBX).keep hSw).at 1 _ rfl
    clear hSw
    (try dsimp only at hSw)
    go_simp
    try with_reducible rfl
  case rp0 =>
  simp only [Act.put, List.setIfInBounds_toArray, List.set_cons_zero, List.set_cons_succ]
  refine wpAnyH_take (i := 1) (oi := { dst := some 8, op := Go.Op.fieldAddr 31 (Go.Operand.tmp 3) 0, type := 0, pos := "l07_ivf.go:70", after := #[], guard := none }) (v := ?vp1) rfl (by kernel_rfl) (by kernel_rfl) (by kernel_rfl) (fun _ _ _ h => h) (Or.inl ⟨by rfl, ?hp1⟩) hHeld ?rp1
  case hp1 =>
    intro wS hSw
    (try dsimp only at hSw)
    go_simp
    try with_reducible rfl
  case rp1 =>
  simp only [Act.put, List.setIfInBounds_toArray, List.set_cons_zero, List.set_cons_succ]
  refine wpAnyH_take (i := 2) (oi := { dst := some 9, op := Go.Op.load 28 (Go.Operand.tmp 8), type := 28, pos := "l07_ivf.go:70", after := #[{ on := 1, ground := Go.Ground.data }], guard := none }) (v := ?vp2) rfl (by kernel_rfl) (by kernel_rfl) (by kernel_rfl) (fun _ _ _ h => h) (Or.inl ⟨by rfl, ?hp2⟩) hHeld ?rp2
  case hp2 =>
    intro wS hSw
    have y0 := ((unhide HBX).keep hSw).at 0 _ rfl
    have y1 := ((unhide HBX).keep hSw).at 1 _ rfl
    clear hSw
    (try dsimp only at hSw)
    go_simp
    try with_reducible rfl
  case rp2 =>
  simp only [Act.put, List.setIfInBounds_toArray, List.set_cons_zero, List.set_cons_succ]
  refine wpAnyH_take (i := 3) (oi := { dst := some 10, op := Go.Op.move (Go.Operand.tmp 1), type := 26, pos := "l07_ivf.go:70", after := #[], guard := none }) (v := ?vp3) rfl (by kernel_rfl) (by kernel_rfl) (by kernel_rfl) (fun _ _ _ h => h) (Or.inl ⟨by rfl, ?hp3⟩) hHeld ?rp3
  case hp3 =>
    intro wS hSw
    (try dsimp only at hSw)
    go_simp
    try with_reducible rfl
  case rp3 =>
  simp only [Act.put, List.setIfInBounds_toArray, List.set_cons_zero, List.set_cons_succ]
  refine wpAnyH_take (i := 6) (oi := { dst := some 13, op := Go.Op.move (Go.Operand.tmp 2), type := 2, pos := "l07_ivf.go:70", after := #[], guard := none }) (v := ?vp6) rfl (by kernel_rfl) (by kernel_rfl) (by kernel_rfl) (fun _ _ _ h => h) (Or.inl ⟨by rfl, ?hp6⟩) hHeld ?rp6
  case hp6 =>
    intro wS hSw
    (try dsimp only at hSw)
    go_simp
    try with_reducible rfl
  case rp6 =>
  simp only [Act.put, List.setIfInBounds_toArray, List.set_cons_zero, List.set_cons_succ]
  refine wpAnyH_ready (rs := [4]) (by kernel_rfl) (by simp) ?_
  refine AllReadyH.cons (o := { dst := some 11, op := Go.Op.call { callee := Go.Callee.value (Go.Operand.func 109), args := #[Go.Operand.tmp 9, Go.Operand.tmp 10], argTypes := #[28, 26] }, type := 26, pos := "l07_ivf.go:70", after := #[{ on := 2, ground := Go.Ground.data }, { on := 3, ground := Go.Ground.data }], guard := none }) rfl (fun K hK => ?_) AllReadyH.nil
  go_simp
  go_at_call 109
  refine (unhide LN _ hHeld).mono ?_
  rintro e w3 ⟨G, rfl, hG, ⟨d, hd1, hd2, hd3, hO3⟩, hb3⟩
  have HD0 := hide hHeld.size
  have lG3 : G < w3.heap.size := (hO3.lt G rfl).2
  try go_wp2_with fail
  refine hK.out _ _ (hHeld.trans (hb3.mono hHeld.size)) (fun hHeld => ?_)
  clear hK K
  try simp only [Act.put, List.setIfInBounds_toArray, List.set_cons_zero, List.set_cons_succ]
  refine wpAnyH_ready (rs := [5]) (by kernel_rfl) (by simp) ?_
  refine AllReadyH.cons (o := { dst := some 12, op := Go.Op.call { callee := Go.Callee.value (Go.Operand.func 108), args := #[Go.Operand.tmp 7, Go.Operand.tmp 11], argTypes := #[31, 26] }, type := 155, pos := "l07_ivf.go:70", after := #[{ on := 0, ground := Go.Ground.data }, { on := 4, ground := Go.Ground.data }, { on := 4, ground := Go.Ground.chain }], guard := none }) rfl (fun K hK => ?_) AllReadyH.nil
  go_simp
  go_at_call 108
  refine (unhide LQ _ _ _ _).mono ?_
  rintro e w4 ⟨rfl, rfl⟩
  have HH4 := hide ((hHeld.alloc hHeld.size (.cells #[.slice ac x.centers.length dc, .slice al x.lists.length dl] 31)).alloc (Nat.le_trans hHeld.size (by simp)) (.cells #[.slice (some ⟨G, 0, none⟩) x.centers.length x.centers.length] 26))
  try go_wp2_with fail
  refine hK.out _ _ ((hHeld.alloc hHeld.size _).alloc (Nat.le_trans hHeld.size (by simp)) _) (fun hHeld => ?_)
  clear hK K
  try simp only [Act.put, List.setIfInBounds_toArray, List.set_cons_zero, List.set_cons_succ]
  refine wpAnyH_ready (rs := [7]) (by kernel_rfl) (by simp) ?_
  refine AllReadyH.cons (o := { dst := some 14, op := Go.Op.call { callee := Go.Callee.value (Go.Operand.func 107), args := #[Go.Operand.tmp 12, Go.Operand.tmp 13], argTypes := #[155, 2] }, type := 107, pos := "l07_ivf.go:70", after := #[{ on := 5, ground := Go.Ground.data }, { on := 6, ground := Go.Ground.data }, { on := 5, ground := Go.Ground.chain }], guard := none }) rfl (fun K hK => ?_) AllReadyH.nil
  go_simp
  go_at_call 107
  obtain ⟨zs, ia, ic, hzl, hzv, hzm, hze, hseq⟩ := probe_seq x ac dc al dl w3 G d (unhide HB0) (unhide HW) (unhide HH4) (unhide HLS) (unhide HLN) (unhide HC6) (unhide HC1) hd2 hd3 hO3
  refine (firstOfC zs ia (fun j => (itsL x.lists j).length) ic _ n _ (unhide HN6) (by omega) hseq).mono ?_
  rintro e w5 ⟨v5, rfl, hO5, hb5⟩
  try go_wp2_with fail
  refine hK.out _ _ (hHeld.trans (hb5.mono hHeld.size)) (fun hHeld => ?_)
  clear hK K
  try simp only [Act.put, List.setIfInBounds_toArray, List.set_cons_zero, List.set_cons_succ]
  refine wpAnyH_take (i := 8) (oi := { dst := some 6, op := Go.Op.assign (Go.Operand.tmp 14), type := 107, pos := "l07_ivf.go:70", after := #[{ on := 7, ground := Go.Ground.data }, { on := 7, ground := Go.Ground.chain }, { on := 0, ground := Go.Ground.phase }, { on := 1, ground := Go.Ground.phase }, { on := 2, ground := Go.Ground.phase }, { on := 3, ground := Go.Ground.phase }, { on := 4, ground := Go.Ground.phase }, { on := 5, ground := Go.Ground.phase }, { on := 6, ground := Go.Ground.phase }, { on := 7, ground := Go.Ground.phase }], guard := none }) (v := ?vp8) rfl (by kernel_rfl) (by kernel_rfl) (by kernel_rfl) (fun _ _ _ h => h) (Or.inl ⟨by rfl, ?hp8⟩) hHeld ?rp8
  case hp8 =>
    intro wS hSw
    (try dsimp only at hSw)
    go_simp
    try with_reducible rfl
  case rp8 =>
  simp only [Act.put, List.setIfInBounds_toArray, List.set_cons_zero, List.set_cons_succ]
  refine wpAnyH_done (by kernel_rfl) ?_ _
  refine NoPanic.normal ?_
  have HO5 := hide hO5
  have HB5 := hide ((unhide HB0).trans (hHeld.mono (unhide HW)))
  have HPR : Hid ((zs.take n).map (fun y => (y.1 : Int)) = probesI x.centers q n) := by
    show (zs.take n).map (fun y => (y.1 : Int)) = probesI x.centers q n
    rw [← places_probes hd1 hd2 n, ← hzv, List.map_take, List.map_take, List.map_map]
    rfl
  clear hO5 hHeld hb5 hseq
  go_wp2_with fail
  go_ret
  exact ⟨_, zs.take n, ia, ic, rfl, unhide HPR, hze, own_mono (by have := unhide HW; have := unhide HD0; simp; omega) (unhide HO5), unhide HB5⟩

end Go.Proofs.YtfgadegpdknocaaGreat

namespace Go.Proofs.YtfgadegpdknocaaGreat
open Go.RowKit

theorem implCount (n : Int) (w : World) :
    Calls Tryz.prog 144 #[.int .i64 n] w fun e w' => e = .returned (.bool (decide (1 ≤ n) && decide (n ≤ 6))) ∧ w' = w := by
  by_cases h1 : 1 ≤ n
  · have d1 : decide (1 ≤ n) = true := by simpa using h1
    rw [d1]
    cases d2 : decide (n ≤ 6) <;>
    · go_enter Tryz.func144, Tryz.ntmps144
      go_wp2_with fail
      go_ret
      exact ⟨rfl, rfl⟩
  · have d1 : decide (1 ≤ n) = false := by simpa using h1
    rw [d1]
    go_enter Tryz.func144, Tryz.ntmps144
    go_wp2_with fail
    go_ret
    exact ⟨rfl, rfl⟩

set_option maxRecDepth 100000 in
set_option maxHeartbeats 1000000 in
theorem implCen_pos (b off cap : Nat) (xs : List DCenter) (w : World) (hn : 1 ≤ xs.length ∧ xs.length ≤ 6) (h : (Lay.sl Lay.tCenter).Reads w [.slice (some ⟨b, off, none⟩) xs.length cap] xs) (hbl : b < w.heap.size) :
    Calls Tryz.prog 122 #[.slice (some ⟨b, off, none⟩) xs.length cap] w fun e w' => e = .returned (.int .i64 (cenFrom xs)) ∧ Below w.heap.size w w' := by
  generalize hF0 : cenFrom xs = F0
  have H := hide h
  clear h
  go_enter Tryz.func122, Tryz.ntmps122
  go_wp2_with fail
  refine (implCount xs.length _).mono ?_
  rintro e w ⟨rfl, rfl⟩
  rw [show (decide ((1 : Int) ≤ (xs.length : Int)) && decide ((xs.length : Int) ≤ 6)) = true by simp; omega]
  go_wp2_with fail
  go_loopw [12] (fun i wr => ∃ k : Nat, k ≤ xs.length ∧ i = .int .i64 k ∧ cenFrom (xs.drop k) = F0 ∧ Below w.heap.size w wr) (fun i _ => xs.length - (intOf i).toNat)
  case atStart => exact ⟨0, Nat.zero_le _, rfl, hF0, Below.refl _ _⟩
  case round =>
    obtain ⟨k, hk, rfl, hF, hB⟩ := hrel
    by_cases hlt : k < xs.length
    · obtain ⟨row, hc, hr⟩ := Lay.row_at (unhide H) hlt
      replace hr := hr.later hB
      obtain ⟨a1, d1, rfl, R1⟩ := open_Center hr
      have c1 : wr.cell? ⟨b, off + k, none⟩ = some (.slice a1 (xs[k]).vec.length d1) := (hB.cell (p := ⟨b, off + k, none⟩) hbl).trans (cen_cell (hc 0 (by decide)))
      rw [cenFrom_step xs k hlt] at hF
      clear hc hr
      generalize hx : xs[k] = x at *
      clear hx
      have hbr : b < wr.heap.size := Nat.lt_of_lt_of_le hbl hB.size
      have nb : Below wr.heap.size wr (wr.alloc (.cells #[.slice a1 x.vec.length d1] 134)) := (Below.refl _ _).alloc (Nat.le_refl _) _
      have I1 := hide ((Lay.ints_reads R1).later nb)
      have HF := hide hF
      have B1 := hide (hB.trans (nb.mono hB.size))
      clear R1 hF hB nb
      go_wp2_with fail
      refine (implFault _ x.vec _ (unhide I1)).mono ?_
      rintro e w1 ⟨rfl, rfl⟩
      by_cases hv : vecFault x.vec = 0
      · rw [hv]
        have hF := unhide HF
        rw [if_pos hv] at hF
        clear HF I1 hv
        have HF := hide hF
        clear hF
        go_wp2_with fail
        go_roundw
        case rel => exact ⟨k + 1, by omega, by go_num, unhide HF, unhide B1⟩
        case measure => simp [intOf]; omega
      · have hF := unhide HF
        rw [if_neg hv] at hF
        have hd : (vecFault x.vec != 0) = true := by simpa using hv
        have HF2 := hide hF
        clear HF hF I1 hv
        go_wp2_with fail
        go_ret
        exact ⟨by rw [← unhide HF2]; rfl, unhide B1⟩
    · obtain rfl : k = xs.length := by omega
      rw [List.drop_length] at hF
      have HF := hide hF
      have HB := hide hB
      clear hF hB H
      go_wp2_with fail
      go_ret
      exact ⟨by rw [← unhide HF]; rfl, unhide HB⟩

set_option maxRecDepth 10000 in
theorem implCen (v : Value) (xs : List DCenter) (w : World) (h : (Lay.sl Lay.tCenter).Reads w [v] xs) :
    Calls Tryz.prog 122 #[v] w fun e w' => e = .returned (.int .i64 (centersFault xs)) ∧ Below w.heap.size w w' := by
  have hbig := h.big
  obtain ⟨ao, cap, rfl⟩ := open_sl h
  by_cases hn : xs.length < 1 ∨ 6 < xs.length
  · have e : centersFault xs = 2 := by unfold centersFault; rw [if_pos hn]
    rw [e]
    clear h e
    go_enter Tryz.func122, Tryz.ntmps122
    go_wp2_with fail
    refine (implCount xs.length _).mono ?_
    rintro e w ⟨rfl, rfl⟩
    rw [show (decide ((1 : Int) ≤ (xs.length : Int)) && decide ((xs.length : Int) ≤ 6)) = false by simp; omega]
    go_wp2_with fail
    go_ret
    exact ⟨rfl, Below.refl _ _⟩
  · have e : centersFault xs = cenFrom xs := by unfold centersFault; rw [if_neg hn]
    rw [e]
    obtain ⟨b, off, rfl, hbl⟩ := Lay.sl_addr h (by omega)
    exact implCen_pos b off cap xs w (by omega) h hbl

end Go.Proofs.YtfgadegpdknocaaGreat

namespace Go.Proofs.YtfgadegpdknocaaGreat
open Go.RowKit

set_option maxRecDepth 100000 in
set_option maxHeartbeats 1000000 in
theorem nearC_pos (b off cap : Nat) (cs : List DCenter) (a2 : Option Addr) (d2 : Nat) (q : List Int) (w : World) (h : (Lay.sl Lay.tCenter).Reads w [.slice (some ⟨b, off, none⟩) cs.length cap] cs) (hbl : b < w.heap.size) (hq : IsInts w (.slice a2 q.length d2) q) (hc0 : centersFault cs = 0) (hv : vecFault q = 0) :
    Calls Tryz.prog 93 #[.slice (some ⟨b, off, none⟩) cs.length cap, .slice a2 q.length d2] w fun e w' => e = .returned (.tuple #[.int .i64 (near cs q : Nat), .int .i64 (nearS cs q)]) ∧ Below w.heap.size w w' := by
  obtain ⟨hn, hall⟩ := centersFault_zero hc0
  have HQ := hide hq
  have HA := hide hall
  have HV := hide hv
  have H := hide h
  have HN : Hid ((near cs q = (nearK cs q cs.length).1) ∧ (nearS cs q = (nearK cs q cs.length).2)) := ⟨rfl, rfl⟩
  clear h hq hall hc0 hv
  go_enter Tryz.func93, Tryz.ntmps93
  go_wp2_with fail
  go_loopw [6, 7, 12] (fun a l i wr => ∃ k : Nat, k ≤ cs.length ∧ i = .int .i64 k ∧ a = .int .i64 ((nearK cs q k).1 : Nat) ∧ l = .int .i64 (nearK cs q k).2 ∧ Below w.heap.size w wr) (fun _ _ i _ => cs.length - (intOf i).toNat)
  case atStart => exact ⟨0, Nat.zero_le _, rfl, rfl, rfl, Below.refl _ _⟩
  case round =>
    obtain ⟨k, hk, rfl, rfl, rfl, hB⟩ := hrel
    by_cases hlt : k < cs.length
    · obtain ⟨row, hc, hr⟩ := Lay.row_at (unhide H) hlt
      replace hr := hr.later hB
      obtain ⟨a1, d1, rfl, R1⟩ := open_Center hr
      have c1 : wr.cell? ⟨b, off + k, none⟩ = some (.slice a1 (cs[k]).vec.length d1) := (hB.cell (p := ⟨b, off + k, none⟩) hbl).trans (cen_cell (hc 0 (by decide)))
      have HS := hide (nearK_step cs q k hlt)
      have hbd := nearK_bd (unhide HA) (unhide HV) k hk
      have hvx := unhide HA cs[k] (List.getElem_mem hlt)
      clear hc hr
      generalize hx : cs[k] = x at *
      clear hx
      have hsb := cscore_bd hvx (unhide HV)
      have I1 := hide (Lay.ints_reads R1)
      have I2 := hide ((unhide HQ).later hB)
      have HX := hide hvx
      have HB := hide hB
      clear R1 hB hvx
      have L := hide (implScore3 _ _ x.vec q wr (unhide I1) (unhide I2) (unhide HX) (unhide HV))
      generalize score3 x.vec q = sc at *
      generalize hs : nearK cs q k = s at *
      clear hs
      obtain ⟨sa, sl⟩ := s
      simp only at hbd
      have hfl : ∀ W : World, (Instr.field 68 (.agg #[.int .i64 0, .int .i64 sc]) 1).run Tryz.prog W = .ok (.int .i64 sc) W := fun _ => by kernel_rfl
      go_wp2_with fail
      refine (unhide L).mono ?_
      rintro e w1 ⟨rfl, hb⟩
      have HB2 := hide ((unhide HB).trans (hb.mono (unhide HB).size))
      clear hb L HB I1 I2 c1
      cases hd : decide (sc < sl) with
      | true =>
        have HS2 : Hid (nearK cs q (k + 1) = (k, sc)) := (unhide HS).trans (if_pos (by simpa using hd))
        clear HS
        go_wp2_with fail
        go_roundw
        case rel => exact ⟨k + 1, by omega, by go_num, by rw [unhide HS2], by rw [unhide HS2], unhide HB2⟩
        case measure => simp [intOf]; omega
      | false =>
        have HS2 : Hid (nearK cs q (k + 1) = (sa, sl)) := (unhide HS).trans (if_neg (by simpa using hd))
        clear HS
        go_wp2_with fail
        go_roundw
        case rel => exact ⟨k + 1, by omega, by go_num, by rw [unhide HS2], by rw [unhide HS2], unhide HB2⟩
        case measure => simp [intOf]; omega
    · obtain rfl : k = cs.length := by omega
      have HB := hide hB
      clear hB H
      go_wp2_with fail
      refine bodyPost_ret (v := .tuple #[.int .i64 ((nearK cs q cs.length).1 : Nat), .int .i64 (nearK cs q cs.length).2]) (by simp [results, Tryz.results93, go_sem]) rfl ⟨rfl, unhide HB⟩

theorem nearC (v : Value) (cs : List DCenter) (vq : Value) (q : List Int) (w : World) (h : (Lay.sl Lay.tCenter).Reads w [v] cs) (hq : IsInts w vq q) (hc : centersFault cs = 0) (hv : vecFault q = 0) :
    Calls Tryz.prog 93 #[v, vq] w fun e w' => e = .returned (.tuple #[.int .i64 (near cs q : Nat), .int .i64 (nearS cs q)]) ∧ Below w.heap.size w w' := by
  obtain ⟨ao, cap, rfl⟩ := open_sl h
  have hvq : ∃ a d, vq = .slice a q.length d := by obtain ⟨a, d, e, -⟩ := hq; exact ⟨a, d, e⟩
  obtain ⟨a2, d2, rfl⟩ := hvq
  obtain ⟨b, off, rfl, hbl⟩ := Lay.sl_addr h (centersFault_zero hc).1.1
  exact nearC_pos b off cap cs a2 d2 q w h hbl hq hc hv

end Go.Proofs.YtfgadegpdknocaaGreat

namespace Go.Proofs.YtfgadegpdknocaaGreat
open Go.RowKit

theorem atB_of {cs : List DCenter} {i : Nat} {xs : List DItem} (h : ∀ x ∈ xs, near cs x.vec = i) : atB cs i xs = true := by
  rw [atB, List.all_eq_true]
  intro x hx
  rw [h x hx]
  exact beq_self_eq_true _
theorem atB_not {cs : List DCenter} {i : Nat} {xs : List DItem} {x : DItem} (hx : x ∈ xs) (h : near cs x.vec ≠ i) : atB cs i xs = false := by
  cases e : atB cs i xs with
  | false => rfl
  | true =>
    rw [atB, List.all_eq_true] at e
    exact absurd (by simpa using e x hx) h

set_option maxRecDepth 100000 in
set_option maxHeartbeats 2000000 in
theorem implListF (v : Value) (cs : List DCenter) (p : Nat) (a : Option Addr) (d : Nat) (xs : List DItem) (w : World) (hcs : (Lay.sl Lay.tCenter).Reads w [v] cs) (hx : (Lay.sl Lay.tItem).Reads w [.slice a xs.length d] xs) (hc : centersFault cs = 0) :
    Calls Tryz.prog 124 #[v, .agg #[.int .i64 (p : Int), .slice a xs.length d]] w fun e w' => e = .returned (.int .i64 (listFault cs p xs)) ∧ Below w.heap.size w w' := by
  generalize hF0 : listFault cs p xs = F0
  have HF0 := hide hF0
  clear hF0
  have HB0 : Below w.heap.size w (w.alloc (.cells #[.int .i64 (p : Int), .slice a xs.length d] 110)) := (Below.refl _ _).alloc (Nat.le_refl _) _
  have bO : Box w.heap.size #[.int .i64 (p : Int), .slice a xs.length d] 110 (w.alloc (.cells #[.int .i64 (p : Int), .slice a xs.length d] 110)) w.heap.size := newBox (Nat.le_refl _)
  have hcs1 := hcs.later HB0
  have hx1 := hx.later HB0
  have z0 := bO.at 0 _ rfl
  have z1 := bO.at 1 _ rfl
  have hbig := hx.big
  obtain ⟨av, dv, rfl⟩ := open_sl hcs
  clear hcs hx
  go_enter Tryz.func124, Tryz.ntmps124
  go_wp2_with fail
  generalize w.alloc (.cells #[.int .i64 (p : Int), .slice a xs.length d] 110) = W0 at *
  refine (implTab _ xs W0 hx1).mono ?_
  rintro e w1 ⟨rfl, hb⟩
  have HC := hide (hcs1.later hb)
  have HX := hide (hx1.later hb)
  replace bO := bO.keep hb
  replace HB0 := HB0.trans (hb.mono HB0.size)
  have HB := hide HB0
  have HO := hide bO
  clear hb HB0 hcs1 hx1 z0 z1
  by_cases hf : tableFault xs = 0
  · have hall := (tableFault_zero hf).2.1
    have hlf : listFault cs p xs = if atB cs p xs then 0 else 1 := if_pos hf
    rw [hf]
    have HLF := hide hlf
    have HALL := hide hall
    have HCF := hide hc
    have z0 := bO.at 0 _ rfl
    have z1 := bO.at 1 _ rfl
    clear hall hlf hf hc bO
    go_wp2_with fail
    go_loopw [19] (fun i wr => ∃ k : Nat, k ≤ xs.length ∧ i = .int .i64 k ∧ (∀ x ∈ xs.take k, near cs x.vec = p) ∧ Below w1.heap.size w1 wr) (fun i _ => xs.length - (intOf i).toNat)
    case atStart => exact ⟨0, Nat.zero_le _, rfl, by simp, Below.refl _ _⟩
    case round =>
      obtain ⟨k, hk, rfl, hnear, hB⟩ := hrel
      clear z0 z1
      by_cases hlt : k < xs.length
      · obtain ⟨b, off, rfl, hbl⟩ := Lay.sl_addr (unhide HX) (by omega)
        obtain ⟨row, hcl, hr⟩ := Lay.row_at (unhide HX) hlt
        replace hr := hr.later hB
        obtain ⟨a1, d1, rfl, R1⟩ := open_Item hr
        have c0 : wr.cell? ⟨b, off + k * 2, none⟩ = some (.int .i64 (xs[k]).id) := (hB.cell (p := ⟨b, off + k * 2, none⟩) hbl).trans (hcl 0 (by decide))
        have c1 : wr.cell? ⟨b, off + k * 2 + 1, none⟩ = some (.slice a1 (xs[k]).vec.length d1) := (hB.cell (p := ⟨b, off + k * 2 + 1, none⟩) hbl).trans (hcl 1 (by decide))
        have hvx := (unhide HALL xs[k] (List.getElem_mem hlt)).2
        have hmem : xs[k] ∈ xs := List.getElem_mem hlt
        have htk : xs.take (k + 1) = xs.take k ++ [xs[k]] := List.take_succ_eq_append_getElem hlt
        have z0 := ((unhide HO).keep hB).at 0 _ rfl
        have z1 := ((unhide HO).keep hB).at 1 _ rfl
        have l0 := ((unhide HO).keep hB).lt
        clear hcl hr
        generalize hx : xs[k] = x at *
        clear hx
        have HN := hide hnear
        have HTK := hide htk
        have HM := hide hmem
        have HVX := hide hvx
        have HR1 := hide R1
        have HB2 := hide hB
        clear R1 hvx hB hnear htk hmem
        go_wp2_with fail
        have hbn : Below wr.heap.size wr (wr.alloc (.cells #[.int .i64 x.id, .slice a1 x.vec.length d1] 133)) := (Below.refl _ _).alloc (Nat.le_refl _) _
        have hb5 := (unhide HB2).trans (hbn.mono (unhide HB2).size)
        have L := nearC _ cs _ x.vec _ ((unhide HC).later hb5) (Lay.ints_reads ((unhide HR1).later hbn)) (unhide HCF) (unhide HVX)
        have hsz : w1.heap.size ≤ wr.heap.size := (unhide HB2).size
        refine L.mono ?_
        rintro e w3 ⟨rfl, hb3⟩
        have hb6 := hb5.trans (hb3.mono hb5.size)
        have HB6 := hide hb6
        replace z0 : w3.cell? ⟨w.heap.size, 0, none⟩ = some (.int .i64 (p : Int)) := ((unhide HO).keep hb6).at 0 _ rfl
        have l0 := ((unhide HO).keep hb6).lt
        clear hb3 hb5 hb6 hbn L c0 c1 z1 HR1 HB2
        generalize nearS cs x.vec = ns at *
        by_cases hnp : near cs x.vec = p
        · have hnn : (((near cs x.vec : Nat) : Int) != (p : Int)) = false := by rw [hnp]; simp
          have HNP := hide hnp
          clear hnp
          go_wp2_with fail
          go_roundw
          case rel =>
            refine ⟨k + 1, by omega, by go_num, ?_, unhide HB6⟩
            rw [unhide HTK]
            intro y hy
            rcases List.mem_append.1 hy with hy | hy
            · exact unhide HN y hy
            · rw [List.mem_singleton.1 hy]; exact unhide HNP
          case measure => simp [intOf]; omega
        · have hnn : (((near cs x.vec : Nat) : Int) != (p : Int)) = true := by
            have : ((near cs x.vec : Nat) : Int) ≠ (p : Int) := by omega
            simpa using this
          have hF : Hid (F0 = 1) := by show F0 = 1; rw [← unhide HF0, unhide HLF, atB_not (unhide HM) hnp]; rfl
          go_wp2_with fail
          go_ret
          exact ⟨by rw [unhide hF]; rfl, (unhide HB).trans ((unhide HB6).mono (unhide HB).size)⟩
      · obtain rfl : k = xs.length := by omega
        have hF : Hid (F0 = 0) := by show F0 = 0; rw [← unhide HF0, unhide HLF, atB_of (by simpa using hnear)]; rfl
        have HB6 := hide hB
        clear hB hnear
        go_wp2_with fail
        go_ret
        exact ⟨by rw [unhide hF]; rfl, (unhide HB).trans ((unhide HB6).mono (unhide HB).size)⟩
  · have hd : (tableFault xs != 0) = true := by simpa using hf
    have hF : Hid (F0 = tableFault xs) := by show F0 = tableFault xs; rw [← unhide HF0]; exact if_neg hf
    clear bO
    go_wp2_with fail
    go_ret
    exact ⟨by rw [unhide hF]; rfl, unhide HB⟩

end Go.Proofs.YtfgadegpdknocaaGreat

namespace Go.Proofs.YtfgadegpdknocaaGreat
open Go.RowKit Go.Shelf
attribute [local go_sem] Oper.semAt_some

set_option maxRecDepth 100000 in
set_option maxHeartbeats 4000000 in
theorem implForm_cen (x : DIvf) (ac : Option Addr) (dc : Nat) (al : Option Addr) (dl : Nat) (w : World) (h1 : (Lay.sl Lay.tCenter).Reads w [.slice ac x.centers.length dc] x.centers) (h2 : (Lay.sl Lay.tIvfList).Reads w [.slice al x.lists.length dl] x.lists) (hf : centersFault x.centers ≠ 0) :
    Calls Tryz.prog 90 #[.agg #[.slice ac x.centers.length dc, .slice al x.lists.length dl]] w fun e w' => e = .returned (.int .i64 (formF x)) ∧ Below w.heap.size w w' := by
  have nb1 : Below w.heap.size w (w.alloc (.cells #[.slice ac x.centers.length dc, .slice al x.lists.length dl] 31)) := (Below.refl _ _).alloc (Nat.le_refl _) _
  have nb2 : Below w.heap.size w ((w.alloc (.cells #[.slice ac x.centers.length dc, .slice al x.lists.length dl] 31)).alloc (.cells #[.int .i64 0] 2)) := nb1.alloc (by simp) _
  have bX : Box w.heap.size #[.slice ac x.centers.length dc, .slice al x.lists.length dl] 31 ((w.alloc (.cells #[.slice ac x.centers.length dc, .slice al x.lists.length dl] 31)).alloc (.cells #[.int .i64 0] 2)) w.heap.size := (newBox (Nat.le_refl _)).grow _
  have bR : Box w.heap.size #[.int .i64 0] 2 ((w.alloc (.cells #[.slice ac x.centers.length dc, .slice al x.lists.length dl] 31)).alloc (.cells #[.int .i64 0] 2)) (w.heap.size + 1) := newBoxAt (by omega) (by simp)
  have R1 := h1.later nb2
  have R2 := h2.later nb2
  have c0 := bX.at 0 _ rfl
  have c1 := bX.at 1 _ rfl
  have L := implCen _ x.centers _ R1
  generalize hF0 : formF x = F0
  have HF0 := hide hF0
  clear hF0 nb1 h1 h2
  refine (callsIn_wide (n := 9)).1 ?_
  refine callsIn_of_wp_marks Tryz.func90 rfl trivial ?_ rfl
  refine wpIn_wide.2 ?_
  simp only [Tryz.ntmps90, List.size_toArray, List.length_cons, List.length_nil, Nat.reduceAdd, Nat.reduceSub, Array.replicate_succ, Array.replicate_zero, List.push_toArray, List.append_toArray, List.nil_append, List.cons_append]
  go_wp2_with fail
  refine L.mono ?_
  generalize (w.alloc (.cells #[.slice ac x.centers.length dc, .slice al x.lists.length dl] 31)).alloc (.cells #[.int .i64 0] 2) = W0 at *
  rintro e w1 ⟨rfl, hb⟩
  replace R1 := R1.later hb
  replace R2 := R2.later hb
  replace bX := bX.keep hb
  replace bR := bR.keep hb
  replace nb2 := nb2.trans (hb.mono nb2.size)
  clear hb L c0 c1
  have c0 := bX.at 0 _ rfl
  have c1 := bX.at 1 _ rfl
  have r0 := bR.at 0 _ rfl
  have f0 := bR.soft 0
  have lX := bX.lt
  have lR := bR.lt
  have hd : (centersFault x.centers != 0) = true := by simpa using hf
  have hF : Hid (F0 = centersFault x.centers) := by show F0 = _; rw [← unhide HF0]; exact if_neg hf
  have HB := hide nb2
  have HR := hide bR
  clear nb2 R1 R2 hf bX bR
  go_wp2_with fail
  have z5 : (w1.setCell ⟨w.heap.size + 1, 0, none⟩ (.int .i64 (centersFault x.centers))).cell? ⟨w.heap.size + 1, 0, none⟩ = some (.int .i64 (centersFault x.centers)) := ((unhide HR).set 0 _).at 0 _ rfl
  exact ⟨.int .i64 (centersFault x.centers), by simp [results, Tryz.results90, go_sem, z5], by rw [unhide hF], (unhide HB).setCell (by simp) _⟩

set_option maxRecDepth 100000 in
set_option maxHeartbeats 4000000 in
theorem implForm_len (x : DIvf) (ac : Option Addr) (dc : Nat) (al : Option Addr) (dl : Nat) (w : World) (h1 : (Lay.sl Lay.tCenter).Reads w [.slice ac x.centers.length dc] x.centers) (h2 : (Lay.sl Lay.tIvfList).Reads w [.slice al x.lists.length dl] x.lists) (hf : centersFault x.centers = 0) (hl : x.lists.length ≠ x.centers.length) :
    Calls Tryz.prog 90 #[.agg #[.slice ac x.centers.length dc, .slice al x.lists.length dl]] w fun e w' => e = .returned (.int .i64 (formF x)) ∧ Below w.heap.size w w' := by
  have nb1 : Below w.heap.size w (w.alloc (.cells #[.slice ac x.centers.length dc, .slice al x.lists.length dl] 31)) := (Below.refl _ _).alloc (Nat.le_refl _) _
  have nb2 : Below w.heap.size w ((w.alloc (.cells #[.slice ac x.centers.length dc, .slice al x.lists.length dl] 31)).alloc (.cells #[.int .i64 0] 2)) := nb1.alloc (by simp) _
  have bX : Box w.heap.size #[.slice ac x.centers.length dc, .slice al x.lists.length dl] 31 ((w.alloc (.cells #[.slice ac x.centers.length dc, .slice al x.lists.length dl] 31)).alloc (.cells #[.int .i64 0] 2)) w.heap.size := (newBox (Nat.le_refl _)).grow _
  have bR : Box w.heap.size #[.int .i64 0] 2 ((w.alloc (.cells #[.slice ac x.centers.length dc, .slice al x.lists.length dl] 31)).alloc (.cells #[.int .i64 0] 2)) (w.heap.size + 1) := newBoxAt (by omega) (by simp)
  have R1 := h1.later nb2
  have R2 := h2.later nb2
  have c0 := bX.at 0 _ rfl
  have c1 := bX.at 1 _ rfl
  have L := implCen _ x.centers _ R1
  generalize hF0 : formF x = F0
  have HF0 := hide hF0
  clear hF0 nb1 h1 h2
  refine (callsIn_wide (n := 9)).1 ?_
  refine callsIn_of_wp_marks Tryz.func90 rfl trivial ?_ rfl
  refine wpIn_wide.2 ?_
  simp only [Tryz.ntmps90, List.size_toArray, List.length_cons, List.length_nil, Nat.reduceAdd, Nat.reduceSub, Array.replicate_succ, Array.replicate_zero, List.push_toArray, List.append_toArray, List.nil_append, List.cons_append]
  go_wp2_with fail
  refine L.mono ?_
  generalize (w.alloc (.cells #[.slice ac x.centers.length dc, .slice al x.lists.length dl] 31)).alloc (.cells #[.int .i64 0] 2) = W0 at *
  rintro e w1 ⟨rfl, hb⟩
  replace R1 := R1.later hb
  replace R2 := R2.later hb
  replace bX := bX.keep hb
  replace bR := bR.keep hb
  replace nb2 := nb2.trans (hb.mono nb2.size)
  clear hb L c0 c1
  have c0 := bX.at 0 _ rfl
  have c1 := bX.at 1 _ rfl
  have r0 := bR.at 0 _ rfl
  have f0 := bR.soft 0
  have lX := bX.lt
  have lR := bR.lt
  have hd : ((x.lists.length : Int) != (x.centers.length : Int)) = true := by
    have : (x.lists.length : Int) ≠ (x.centers.length : Int) := by omega
    simpa using this
  have hF : Hid (F0 = 1) := by show F0 = _; rw [← unhide HF0, formF, if_pos hf, if_neg hl]
  rw [hf]
  have HB := hide nb2
  have HR := hide bR
  clear nb2 R1 R2 hf bX bR hl
  go_wp2_with fail
  have z5 : (w1.setCell ⟨w.heap.size + 1, 0, none⟩ (.int .i64 1)).cell? ⟨w.heap.size + 1, 0, none⟩ = some (.int .i64 1) := ((unhide HR).set 0 _).at 0 _ rfl
  exact ⟨.int .i64 1, by simp [results, Tryz.results90, go_sem, z5], by rw [unhide hF], (unhide HB).setCell (by simp) _⟩

set_option maxRecDepth 100000 in
set_option maxHeartbeats 4000000 in
theorem implForm_ok (x : DIvf) (ac : Option Addr) (dc : Nat) (al : Option Addr) (dl : Nat) (w : World) (h1 : (Lay.sl Lay.tCenter).Reads w [.slice ac x.centers.length dc] x.centers) (h2 : (Lay.sl Lay.tIvfList).Reads w [.slice al x.lists.length dl] x.lists) (hf : centersFault x.centers = 0) (HL : Hid (x.lists.length = x.centers.length)) :
    Calls Tryz.prog 90 #[.agg #[.slice ac x.centers.length dc, .slice al x.lists.length dl]] w fun e w' => e = .returned (.int .i64 (formF x)) ∧ Below w.heap.size w w' := by
  have nb1 : Below w.heap.size w (w.alloc (.cells #[.slice ac x.centers.length dc, .slice al x.lists.length dl] 31)) := (Below.refl _ _).alloc (Nat.le_refl _) _
  have nb2 : Below w.heap.size w ((w.alloc (.cells #[.slice ac x.centers.length dc, .slice al x.lists.length dl] 31)).alloc (.cells #[.int .i64 0] 2)) := nb1.alloc (by simp) _
  have bX : Box w.heap.size #[.slice ac x.centers.length dc, .slice al x.lists.length dl] 31 ((w.alloc (.cells #[.slice ac x.centers.length dc, .slice al x.lists.length dl] 31)).alloc (.cells #[.int .i64 0] 2)) w.heap.size := (newBox (Nat.le_refl _)).grow _
  have bR : Box w.heap.size #[.int .i64 0] 2 ((w.alloc (.cells #[.slice ac x.centers.length dc, .slice al x.lists.length dl] 31)).alloc (.cells #[.int .i64 0] 2)) (w.heap.size + 1) := newBoxAt (by omega) (by simp)
  have R1 := h1.later nb2
  have R2 := h2.later nb2
  have c0 := bX.at 0 _ rfl
  have c1 := bX.at 1 _ rfl
  have L := implCen _ x.centers _ R1
  generalize hF0 : formF x = F0
  have HF0 := hide hF0
  have H1 := hide h1
  have H2 := hide h2
  clear hF0 nb1 h1 h2
  refine (callsIn_wide (n := 9)).1 ?_
  refine callsIn_of_wp_marks Tryz.func90 rfl trivial ?_ rfl
  refine wpIn_wide.2 ?_
  simp only [Tryz.ntmps90, List.size_toArray, List.length_cons, List.length_nil, Nat.reduceAdd, Nat.reduceSub, Array.replicate_succ, Array.replicate_zero, List.push_toArray, List.append_toArray, List.nil_append, List.cons_append]
  go_wp2_with fail
  refine L.mono ?_
  generalize (w.alloc (.cells #[.slice ac x.centers.length dc, .slice al x.lists.length dl] 31)).alloc (.cells #[.int .i64 0] 2) = W0 at *
  rintro e w1 ⟨rfl, hb⟩
  replace R1 := R1.later hb
  replace R2 := R2.later hb
  replace bX := bX.keep hb
  replace bR := bR.keep hb
  replace nb2 := nb2.trans (hb.mono nb2.size)
  clear hb L c0 c1
  have c0 := bX.at 0 _ rfl
  have c1 := bX.at 1 _ rfl
  have r0 := bR.at 0 _ rfl
  have f0 := bR.soft 0
  have lX := bX.lt
  have lR := bR.lt
  have hd : ((x.lists.length : Int) != (x.centers.length : Int)) = false := by rw [unhide HL]; simp
  have hn6 : x.centers.length ≤ 6 := (centersFault_zero hf).1.2
  have hn1 : 1 ≤ x.centers.length := (centersFault_zero hf).1.1
  rw [hf]
  have HCF := hide hf
  have HB := hide nb2
  have HR := hide bR
  have HBX := hide bX
  have LP : Hid (∀ W : World, _) := fun W : World => implPlaces ac x.centers.length dc W (by omega)
  have LQ : Hid (∀ (a : Option Addr) (n c : Nat) (W : World), _) := fun (a : Option Addr) (n c : Nat) (W : World) => implListsAt (.slice ac x.centers.length dc) (.slice al x.lists.length dl) a n c W ⟨_, _, _, rfl⟩ ⟨_, _, _, rfl⟩
  clear nb2 R1 R2 hf bX bR
  go_wp2_with fail
  clear c0 c1 r0 f0
  refine wp_region_noPanic ?_
  refine wp_region_held_drew (S := fun w' => Below w1.heap.size w1 w') (by kernel_rfl) (Below.refl _ _).drew (fun hHeld => ?_)
  generalize w1.drew = wD at hHeld ⊢
  refine wpAnyH_take (i := 0) (oi := { dst := some 19, op := Go.Op.load 31 (Go.Operand.tmp 1), type := 31, pos := "l07_ivf.go:92", after := #[], guard := none }) (v := ?vf0) rfl (by kernel_rfl) (by kernel_rfl) (by kernel_rfl) (fun _ _ _ h => h) (Or.inl ⟨by rfl, ?hf0⟩) hHeld ?rf0
  case hf0 =>
    intro wS hSw
    have y0 := ((unhide HBX).keep hSw).at 0 _ rfl
    have y1 := ((unhide HBX).keep hSw).at 1 _ rfl
    clear hSw
    (try dsimp only at hSw)
    go_simp
    try with_reducible rfl
  case rf0 =>
  simp only [Act.put, List.setIfInBounds_toArray, List.set_cons_zero, List.set_cons_succ]
  refine wpAnyH_take (i := 1) (oi := { dst := some 20, op := Go.Op.fieldAddr 31 (Go.Operand.tmp 1) 0, type := 0, pos := "l07_ivf.go:92", after := #[], guard := none }) (v := ?vf1) rfl (by kernel_rfl) (by kernel_rfl) (by kernel_rfl) (fun _ _ _ h => h) (Or.inl ⟨by rfl, ?hf1⟩) hHeld ?rf1
  case hf1 =>
    intro wS hSw
    (try dsimp only at hSw)
    go_simp
    try with_reducible rfl
  case rf1 =>
  simp only [Act.put, List.setIfInBounds_toArray, List.set_cons_zero, List.set_cons_succ]
  refine wpAnyH_take (i := 2) (oi := { dst := some 21, op := Go.Op.load 28 (Go.Operand.tmp 20), type := 28, pos := "l07_ivf.go:92", after := #[{ on := 1, ground := Go.Ground.data }], guard := none }) (v := ?vf2) rfl (by kernel_rfl) (by kernel_rfl) (by kernel_rfl) (fun _ _ _ h => h) (Or.inl ⟨by rfl, ?hf2⟩) hHeld ?rf2
  case hf2 =>
    intro wS hSw
    have y0 := ((unhide HBX).keep hSw).at 0 _ rfl
    have y1 := ((unhide HBX).keep hSw).at 1 _ rfl
    clear hSw
    (try dsimp only at hSw)
    go_simp
    try with_reducible rfl
  case rf2 =>
  simp only [Act.put, List.setIfInBounds_toArray, List.set_cons_zero, List.set_cons_succ]
  refine wpAnyH_ready (rs := [3]) (by kernel_rfl) (by simp) ?_
  refine AllReadyH.cons (o := { dst := some 22, op := Go.Op.call { callee := Go.Callee.value (Go.Operand.func 123), args := #[Go.Operand.tmp 21], argTypes := #[28] }, type := 26, pos := "l07_ivf.go:92", after := #[{ on := 2, ground := Go.Ground.data }], guard := none }) rfl (fun K hK => ?_) AllReadyH.nil
  go_simp
  go_at_call 123
  refine (unhide LP _).mono ?_
  rintro e w3 ⟨rfl, hO3, hb3⟩
  try go_wp2_with fail
  refine hK.out _ _ (hHeld.trans (hb3.mono hHeld.size)) (fun hHeld => ?_)
  clear hK K
  try simp only [Act.put, List.setIfInBounds_toArray, List.set_cons_zero, List.set_cons_succ]
  refine wpAnyH_ready (rs := [4]) (by kernel_rfl) (by simp) ?_
  refine AllReadyH.cons (o := { dst := some 23, op := Go.Op.call { callee := Go.Callee.value (Go.Operand.func 108), args := #[Go.Operand.tmp 19, Go.Operand.tmp 22], argTypes := #[31, 26] }, type := 155, pos := "l07_ivf.go:92", after := #[{ on := 0, ground := Go.Ground.data }, { on := 3, ground := Go.Ground.data }, { on := 3, ground := Go.Ground.chain }], guard := none }) rfl (fun K hK => ?_) AllReadyH.nil
  go_simp
  go_at_call 108
  refine (unhide LQ _ _ _ _).mono ?_
  rintro e w4 ⟨rfl, rfl⟩
  try go_wp2_with fail
  refine hK.out _ _ ((hHeld.alloc hHeld.size _).alloc (Nat.le_trans hHeld.size (by simp)) _) (fun hHeld => ?_)
  clear hK K
  try simp only [Act.put, List.setIfInBounds_toArray, List.set_cons_zero, List.set_cons_succ]
  refine wpAnyH_done (by kernel_rfl) ?_ _
  refine NoPanic.normal ?_
  have HO3 := hide hO3
  have HB3 := hide hb3
  have HHeld := hide hHeld
  clear hO3 hb3 hHeld
  go_wp2_with fail
  have hpos : 0 < x.lists.length := by rw [unhide HL]; omega
  have hm6 : x.lists.length ≤ 6 := by rw [unhide HL]; omega
  obtain ⟨bL, oL, ia, ic, rfl, hbL, hli⟩ := lists_at (unhide H2) hpos
  have hbw := unhide HB
  have hO4 := ((unhide HO3).alloc (.cells #[.slice ac x.centers.length dc, .slice (some ⟨bL, oL, none⟩) x.lists.length dl] 31)).alloc (.cells #[.slice (some ⟨wD.heap.size, 0, none⟩) x.centers.length x.centers.length] 26)
  have bX4 := ((unhide HBX).keep (unhide HHeld))
  have bR4 := ((unhide HR).keep (unhide HHeld))
  have hB4 := hbw.trans ((unhide HHeld).mono hbw.size)
  have hsz3 : wD.heap.size < w3.heap.size := ((unhide HO3).lt wD.heap.size rfl).2
  have bY : Box 0 #[.slice ac x.centers.length dc, .slice (some ⟨bL, oL, none⟩) x.lists.length dl] 31 ((w3.alloc (.cells #[.slice ac x.centers.length dc, .slice (some ⟨bL, oL, none⟩) x.lists.length dl] 31)).alloc (.cells #[.slice (some ⟨wD.heap.size, 0, none⟩) x.centers.length x.centers.length] 26)) w3.heap.size := (newBox (Nat.zero_le _)).grow _
  have bP : Box 0 #[.slice (some ⟨wD.heap.size, 0, none⟩) x.centers.length x.centers.length] 26 ((w3.alloc (.cells #[.slice ac x.centers.length dc, .slice (some ⟨bL, oL, none⟩) x.lists.length dl] 31)).alloc (.cells #[.slice (some ⟨wD.heap.size, 0, none⟩) x.centers.length x.centers.length] 26)) (w3.heap.size + 1) := newBoxAt (Nat.zero_le _) (by simp)
  have hszL : ((w3.alloc (.cells #[.slice ac x.centers.length dc, .slice (some ⟨bL, oL, none⟩) x.lists.length dl] 31)).alloc (.cells #[.slice (some ⟨wD.heap.size, 0, none⟩) x.centers.length x.centers.length] 26)).heap.size = w3.heap.size + 2 := by simp
  generalize hWL : (w3.alloc (.cells #[.slice ac x.centers.length dc, .slice (some ⟨bL, oL, none⟩) x.lists.length dl] 31)).alloc (.cells #[.slice (some ⟨wD.heap.size, 0, none⟩) x.centers.length x.centers.length] 26) = WL at *
  have hlw : w.heap.size + 1 < w1.heap.size := (unhide HR).lt
  have hw1L := (unhide HHeld).size
  have hit : ItAt WL w3.heap.size bL oL x.lists.length dl ia (fun j => (itsL x.lists j).length) ic wD.heap.size 0 (allPl x.lists.length) := by
    refine ⟨bY.at 1 _ rfl, fun j hj => (hB4.cell (p := ⟨bL, oL + j, none⟩) hbL).trans (hli j hj).1, fun i hi => ?_⟩
    rw [allPl_at, Nat.zero_add]
    rw [allPl_len] at hi
    rw [hO4.cellAt i (by have := unhide HL; omega)]
    exact plV_at (by rw [List.getElem?_range (by rw [← unhide HL]; exact hi)])
  have hbp : WL.cell? ⟨w3.heap.size + 1, 0, none⟩ = some (.slice (some ⟨wD.heap.size, 0, none⟩) (allPl x.lists.length).length x.centers.length) := by rw [allPl_len, unhide HL]; exact bP.at 0 _ rfl
  clear hO4 bY bP
  refine wpIn_wide.1 (wpIn_rangeFunc_ownH (F := Fence.wide) (n := 9) rfl (by decide) (gf := 134) (lb := #[.pointer (some ⟨w3.heap.size + 1, 0, none⟩), .pointer (some ⟨w3.heap.size, 0, none⟩)]) rfl trivial (enters_of Tryz.func134 (by kernel_rfl) rfl)
    (listsAt_stops 8 (w3.heap.size + 1) w3.heap.size bL oL x.lists.length dl x.centers.length ia (fun j => (itsL x.lists j).length) ic wD.heap.size 0 (allPl x.lists.length) WL.heap.size (fun _ => False) (by rw [allPl_len]; omega) ⟨by omega, fun h => h⟩ ⟨by have := hbw.size; omega, fun h => h⟩ ⟨by omega, fun h => h⟩ WL (by omega) (Nat.le_refl _) hbp hit)
    KpS.trans (fun W l _ o' hl _ _ _ => KpS.put _ W l o' hl) (Below.refl _ _) (fun _ => rfl)
    (fun pre W => (WL.heap.size ≤ W.heap.size ∧ ∀ p ∈ pre, faultAt x p.1 = 0) ∧ Box w.heap.size #[.slice ac x.centers.length dc, .slice (some ⟨bL, oL, none⟩) x.lists.length dl] 31 W w.heap.size ∧ Box w.heap.size #[.int .i64 0] 2 W (w.heap.size + 1) ∧ Below w.heap.size w W)
    (fun c pre W => c = .ret ∧ ∃ pre' p, pre = pre' ++ [p] ∧ (∀ q ∈ pre', faultAt x q.1 = 0) ∧ faultAt x p.1 ≠ 0 ∧ Box w.heap.size #[.int .i64 (faultAt x p.1)] 2 W (w.heap.size + 1) ∧ Below w.heap.size w W)
    (fun s A B row hs hg hr => ⟨⟨Nat.le_trans hs.1.1 hg.size, hs.1.2⟩, box_grown hg hr hs.2.1, box_grown hg hr hs.2.2.1, below_grown hg hr hs.2.2.2 (by omega) (Nat.le_refl _)⟩)
    (fun c s A B row hs hg hr => by
      obtain ⟨rfl, pre', p, rfl, q1, q2, q3, q4⟩ := hs
      exact ⟨rfl, pre', p, rfl, q1, q2, box_grown hg hr q3, below_grown hg hr q4 (by omega) (Nat.le_refl _)⟩)
    ⟨⟨Nat.le_refl _, by simp⟩, bX4, bR4, hB4⟩
    (fun y a' W => ∃ Bo, Box 0 #[.int .i64 (y.1 : Int), .slice (ia y.1) (itsL x.lists y.1).length (ic y.1)] 110 W Bo ∧ a' = { tmps := #[.agg #[.slice ac x.centers.length dc, .slice (some ⟨bL, oL, none⟩) x.lists.length dl], .pointer (some ⟨w.heap.size, 0, none⟩), .pointer (some ⟨w.heap.size + 1, 0, none⟩), .int .i64 0, .pointer (some ⟨Bo, 0, none⟩), undef, .pointer (some ⟨w.heap.size, 0, none⟩), .slice ac x.centers.length dc, .int .i64 0, .int .i64 0, .bool false, undef, .pointer (some ⟨w.heap.size, 1, none⟩), .slice (some ⟨bL, oL, none⟩) x.lists.length dl, .int .i64 (x.lists.length : Int), .pointer (some ⟨w.heap.size, 0, none⟩), .slice ac x.centers.length dc, .int .i64 (x.centers.length : Int), .bool false, .agg #[.slice ac x.centers.length dc, .slice (some ⟨bL, oL, none⟩) x.lists.length dl], .pointer (some ⟨w.heap.size, 0, none⟩), .slice ac x.centers.length dc, .slice (some ⟨wD.heap.size, 0, none⟩) x.centers.length x.centers.length, .func (.func 134) #[] #[.pointer (some ⟨w3.heap.size + 1, 0, none⟩), .pointer (some ⟨w3.heap.size, 0, none⟩)], .agg #[.int .i64 (y.1 : Int), .slice (ia y.1) (itsL x.lists y.1).length (ic y.1)], undef, undef, undef, undef, undef, undef, undef], defers := [] })
    (fun y a' _ A B row hs hg hr => by
      obtain ⟨Bo, q1, q2⟩ := hs
      exact ⟨Bo, box_grown hg hr q1, q2⟩)
    ?assign ?body ?done ?stop)
  case assign =>
    rintro l pre y W K ⟨⟨hs, hp⟩, b1, b2, hB1⟩ hK
    have hbn : Below W.heap.size W (W.alloc (.cells #[.int .i64 (y.1 : Int), .slice (ia y.1) (itsL x.lists y.1).length (ic y.1)] 110)) := (Below.refl _ _).alloc (Nat.le_refl _) _
    gi_wp2
    exact hK _ _ (keepsFrom_below hbn) (KpS.of_below _ hbn hs) ⟨⟨Nat.le_trans hs hbn.size, hp⟩, b1.keep hbn, b2.keep hbn, hB1.trans (hbn.mono hB1.size)⟩ ⟨W.heap.size, newBox (Nat.zero_le _), rfl⟩
  case body =>
    rintro l pre y a' W hl ⟨r, hr⟩ ⟨⟨hs, hp⟩, b1, b2, hB1⟩ ⟨Bo, bO, rfl⟩ hlt
    have c0 := b1.at 0 _ rfl
    have o0 := bO.at 0 _ rfl
    have o1 := bO.at 1 _ rfl
    have hy2 := y.2
    have LF := implListF _ x.centers y.1 (ia y.1) (ic y.1) (itsL x.lists y.1) W ((unhide H1).later hB1) ((hli y.1 y.2).2.later hB1) (unhide HCF)
    have LG := hide (CallsIn.inRound l ((callsIn_wide (n := 9 - 1 - 1 - 1)).2 LF))
    have HP := hide hp
    have HB1 := hide hB1
    have HB2 := hide b1
    have HB3 := hide b2
    clear LF hp hB1 hit hbp hli hB4 bX4 bR4 b1 b2 bO
    gi_wp2
    refine ⟨trivial, ?_⟩
    gi_at_call 124
    refine (unhide LG).mono ?_
    rintro e w5 ⟨rfl, hb5⟩
    have e5 : listFault x.centers y.1 (itsL x.lists y.1) = faultAt x y.1 := rfl
    rw [e5]
    have hbb := unhide HB1
    have hB5 := hide (hbb.trans (hb5.mono hbb.size))
    have HK5 : Hid (KeepsFrom WL.heap.size W w5) := keepsFrom_below hb5
    have HP5 : Hid (KpS WL.heap.size (fun _ => False) W w5) := KpS.of_below _ hb5 hs
    have HX5 := hide ((unhide HB2).keep hb5)
    have HR5 := hide ((unhide HB3).keep hb5)
    have hs5 := hb5.size
    clear c0 o0 o1 hb5 hbb e5 LG
    by_cases hz : faultAt x y.1 = 0
    · rw [hz]
      have HZ := hide hz
      clear hz
      gi_wp2
      refine ⟨unhide HK5, unhide HP5, ⟨by omega, fun q hq => ?_⟩, unhide HX5, unhide HR5, unhide hB5⟩
      rcases List.mem_append.1 hq with hq | hq
      · exact unhide HP q hq
      · rw [List.mem_singleton.1 hq]; exact unhide HZ
    · have hd5 : (faultAt x y.1 != 0) = true := by simpa using hz
      have HZ := hide hz
      have r0 := (unhide HR5).at 0 _ rfl
      have f0 := (unhide HR5).soft 0
      have lR5 := (unhide HR5).lt
      clear hz
      gi_wp2
      refine ⟨(unhide HK5).trans ((KeepsOthers.setCell _ _ _).from _), rfl, pre, y, rfl, unhide HP, unhide HZ, (unhide HR5).set 0 _, (unhide hB5).setCell (by simp) _⟩
  case done =>
    rintro D xs W hD rfl ⟨⟨hs, hp⟩, b1, b2, hB1⟩ hK
    have r0 := b2.at 0 _ rfl
    have f0 := b2.soft 0
    have l0 := b2.lt
    have HR5 := hide b2
    have HB5 := hide hB1
    have hF : Hid (F0 = 0) := by show F0 = 0; rw [← unhide HF0]; exact form_all (unhide HCF) (unhide HL) hp
    have HK := hide hK
    clear b1 b2 hB1 hK hit hbp hli
    go_wp2_with fail
    have hK' := (KeepsOthers.setCell W ⟨w.heap.size + 1, 0, none⟩ (.int .i64 0)).same D _ (unhide HK) rfl
    refine ⟨by simp, .inl ⟨_, _, rfl, run_takeDeferred hK', ?_⟩⟩
    have hc5 := cell_kept (((unhide HR5).set 0 (.int .i64 0)).at 0 _ rfl) (grownBy_putObj' _ D (.deferred none)) (fun r e => by cases e; exact ⟨_, hK', rfl⟩)
    refine ⟨.int .i64 0, by simp [results, Tryz.results90, go_sem, hc5], by rw [unhide hF], ?_⟩
    exact ((unhide HB5).setCell (by simp) _).grown (grownBy_putObj' _ D (.deferred none)) (by have := (unhide HB5).size; simp; omega) (fun k e => by cases e; omega)
  case stop =>
    rintro D c pre W hD hpre ⟨rfl, pre', p, rfl, q1, q2, q3, q4⟩ hK
    have hF : Hid (F0 = faultAt x p.1) := by show F0 = _; rw [← unhide HF0]; exact form_at (unhide HCF) (unhide HL) hpre q1 q2
    have HR5 := hide q3
    have HB5 := hide q4
    have HK := hide hK
    clear q1 q2 q3 q4 hK hit hbp hli
    gi_wp2
    refine ⟨by simp, .inl ⟨_, _, rfl, run_takeDeferred (unhide HK), ?_⟩⟩
    have hc5 := cell_kept ((unhide HR5).at 0 _ rfl) (grownBy_putObj' _ D (.deferred none)) (fun r e => by cases e; exact ⟨_, unhide HK, rfl⟩)
    refine ⟨.int .i64 (faultAt x p.1), by simp [results, Tryz.results90, go_sem, hc5], by rw [unhide hF], ?_⟩
    exact (unhide HB5).grown (grownBy_putObj' _ D (.deferred none)) (by have := (unhide HB5).size; omega) (fun k e => by cases e; omega)


theorem implForm (x : DIvf) (ac : Option Addr) (dc : Nat) (al : Option Addr) (dl : Nat) (w : World) (h1 : (Lay.sl Lay.tCenter).Reads w [.slice ac x.centers.length dc] x.centers) (h2 : (Lay.sl Lay.tIvfList).Reads w [.slice al x.lists.length dl] x.lists) :
    Calls Tryz.prog 90 #[.agg #[.slice ac x.centers.length dc, .slice al x.lists.length dl]] w fun e w' => e = .returned (.int .i64 (formF x)) ∧ Below w.heap.size w w' := by
  by_cases hf : centersFault x.centers = 0
  · by_cases hl : x.lists.length = x.centers.length
    · exact implForm_ok x ac dc al dl w h1 h2 hf hl
    · exact implForm_len x ac dc al dl w h1 h2 hf hl
  · exact implForm_cen x ac dc al dl w h1 h2 hf

end Go.Proofs.YtfgadegpdknocaaGreat

namespace Go.Proofs.YtfgadegpdknocaaGreat
open Go.RowKit

theorem foldIs_len (ls : List DIvfList) : ∀ (o : List DItem), Rising o → (ls.foldl (fun o l => gatherI o l.items) o).length ≤ o.length + countIs ls := by
  induction ls with
  | nil => exact fun o _ => Nat.le_refl _
  | cons l ls ih =>
    intro o ho
    have h1 := ih (gatherI o l.items) (gatherI_rising ho l.items)
    have h2 := gatherI_len ho l.items
    simp only [List.foldl_cons, countIs]
    omega
theorem allIs_split (ls : List DIvfList) (k : Nat) (hk : k < ls.length) : allIs ls = (ls.drop (k + 1)).foldl (fun o l => gatherI o l.items) (gatherI (allIs (ls.take k)) ls[k].items) := by
  have e : ls = ls.take k ++ ls[k] :: ls.drop (k + 1) := by rw [← List.drop_eq_getElem_cons hk, List.take_append_drop]
  have e2 : allIs ls = allIs (ls.take k ++ ls[k] :: ls.drop (k + 1)) := by rw [← e]
  rw [e2, allIs, List.foldl_append, List.foldl_cons]
  rfl
theorem countIs_append (a b : List DIvfList) : countIs (a ++ b) = countIs a + countIs b := by
  induction a with
  | nil => simp [countIs]
  | cons l a ih => simp only [List.cons_append, countIs, ih]; omega
theorem countIs_split (ls : List DIvfList) (k : Nat) (hk : k < ls.length) : countIs ls = countIs (ls.take k) + (ls[k].items.length + countIs (ls.drop (k + 1))) := by
  have e : ls = ls.take k ++ ls[k] :: ls.drop (k + 1) := by rw [← List.drop_eq_getElem_cons hk, List.take_append_drop]
  have e2 : countIs ls = countIs (ls.take k ++ ls[k] :: ls.drop (k + 1)) := by rw [← e]
  rw [e2, countIs_append]
  rfl
theorem gather_split (out xs : List DItem) (j : Nat) (hj : j < xs.length) : gatherI out xs = gatherI (putI (gatherI out (xs.take j)) xs[j].id xs[j].vec) (xs.drop (j + 1)) := by
  have e : xs = xs.take j ++ xs[j] :: xs.drop (j + 1) := by rw [← List.drop_eq_getElem_cons hj, List.take_append_drop]
  have e2 : gatherI out xs = gatherI out (xs.take j ++ xs[j] :: xs.drop (j + 1)) := by rw [← e]
  rw [e2, gatherI, List.foldl_append, List.foldl_cons]
  rfl
/-- One Id is there already: then there are fewer in all than in the lists. -/
theorem taken_fact {ls : List DIvfList} {k : Nat} (hk : k < ls.length) {j : Nat} (hj : j < ls[k].items.length) (hh : hasI (gatherI (allIs (ls.take k)) (ls[k].items.take j)) ls[k].items[j].id = true) : (allIs ls).length ≠ countIs ls := by
  have r0 := allIs_rising (ls.take k)
  have r1 := gatherI_rising r0 (ls[k].items.take j)
  have r2 := putI_rising r1 ls[k].items[j].id ls[k].items[j].vec
  have n0 := allIs_len (ls.take k)
  have n1 := gatherI_len r0 (ls[k].items.take j)
  have n2 := putI_len r1 ls[k].items[j].id ls[k].items[j].vec
  rw [if_pos hh] at n2
  have n3 := gatherI_len r2 (ls[k].items.drop (j + 1))
  rw [← gather_split _ _ j hj] at n3
  have n4 := foldIs_len (ls.drop (k + 1)) _ (gatherI_rising r0 ls[k].items)
  rw [← allIs_split ls k hk] at n4
  have n5 := countIs_split ls k hk
  rw [List.length_take] at n1
  rw [List.length_drop] at n3
  omega
/-- What is held when j of list k have come. -/
def heldAt (ls : List DIvfList) (k j : Nat) : List DItem := gatherI (allIs (ls.take k)) ((ls.getD k ⟨[]⟩).items.take j)
def heldN (ls : List DIvfList) (k j : Nat) : Nat := countIs (ls.take k) + j

end Go.Proofs.YtfgadegpdknocaaGreat

namespace Go.Proofs.YtfgadegpdknocaaGreat
open Go.RowKit

/-- The code of an index whose lists are right. -/
def codeL (x : DIvf) : Int := if (allIs x.lists).length = countIs x.lists then (if countIs x.lists ≤ 30 then 0 else 2) else 6
/-- What is held when the lists of pre have come. -/
def heldP {m : Nat} (ls : List DIvfList) (pre : List (Pl m)) : List DItem := pre.foldl (fun o p => gatherI o (itsL ls p.1)) []
def countP : {m : Nat} → (ls : List DIvfList) → (pre : List (Pl m)) → Nat
  | _, _, [] => 0
  | _, ls, p :: pre => (itsL ls p.1).length + countP ls pre
theorem heldP_snoc {m : Nat} (ls : List DIvfList) (pre : List (Pl m)) (p : Pl m) : heldP ls (pre ++ [p]) = gatherI (heldP ls pre) (itsL ls p.1) := by
  rw [heldP, List.foldl_append]
  rfl
theorem countP_snoc {m : Nat} (ls : List DIvfList) (pre : List (Pl m)) (p : Pl m) : countP ls (pre ++ [p]) = countP ls pre + (itsL ls p.1).length := by
  induction pre with
  | nil => simp [countP]
  | cons q pre ih => simp only [List.cons_append, countP, ih]; omega
theorem heldP_rising {m : Nat} (ls : List DIvfList) (pre : List (Pl m)) : Rising (heldP ls pre) := by
  have : ∀ o, Rising o → Rising (pre.foldl (fun o p => gatherI o (itsL ls p.1)) o) := by
    induction pre with
    | nil => exact fun o h => h
    | cons q pre ih => exact fun o h => ih _ (gatherI_rising h _)
  exact this [] List.Pairwise.nil
theorem countP_le {m : Nat} {ls : List DIvfList} (h : ∀ j, (itsL ls j).length ≤ 30) (pre : List (Pl m)) : countP ls pre ≤ 30 * pre.length := by
  induction pre with
  | nil => simp [countP]
  | cons q pre ih =>
    have := h q.1
    simp only [countP, List.length_cons]
    omega
/-- The first k places, whatever the list of places is. -/
theorem heldP_take {ls : List DIvfList} {pre : List (Pl ls.length)} (h : ∀ j (hj : j < pre.length), pre[j].1 = j) (hl : pre.length ≤ ls.length) : heldP ls pre = allIs (ls.take pre.length) ∧ countP ls pre = countIs (ls.take pre.length) := by
  obtain ⟨k, hk⟩ : ∃ k, pre.length = k := ⟨_, rfl⟩
  induction k generalizing pre with
  | zero =>
    obtain rfl : pre = [] := List.eq_nil_of_length_eq_zero hk
    exact ⟨rfl, by simp [countP, countIs]⟩
  | succ k ih =>
    obtain ⟨q, p, rfl⟩ : ∃ q p, pre = q ++ [p] := ⟨pre.dropLast, pre.getLast (by intro e; rw [e] at hk; cases hk), (List.dropLast_concat_getLast _).symm⟩
    have hq : q.length = k := by simpa using hk
    have hp := h k (by simp [hq])
    simp only [← hq, List.getElem_concat_length] at hp
    obtain ⟨i1, i2⟩ := ih (pre := q) (fun j hj => by
      have := h j (by simp; omega)
      rw [List.getElem_append_left hj] at this
      exact this) (by simp at hl; omega) hq
    have hlt : q.length < ls.length := by simp at hl; omega
    rw [heldP_snoc, countP_snoc, i1, i2, List.length_append, List.length_singleton, allIs_step ls q.length hlt, countIs_take ls q.length hlt, hp, itsL_eq hlt]
    exact ⟨rfl, rfl⟩
theorem held_all (ls : List DIvfList) : heldP ls (allPl ls.length) = allIs ls ∧ countP ls (allPl ls.length) = countIs ls := by
  have := heldP_take (ls := ls) (pre := allPl ls.length) (fun j hj => allPl_at _ j hj) (by rw [allPl_len]; exact Nat.le_refl _)
  rw [allPl_len, List.take_length] at this
  exact this
theorem held_taken {x : DIvf} {pre : List (Pl x.lists.length)} {p : Pl x.lists.length} (hp : pre ++ [p] <+: allPl x.lists.length) {j : Nat} (hj : j < (itsL x.lists p.1).length) (hh : hasI (gatherI (heldP x.lists pre) ((itsL x.lists p.1).take j)) (itsL x.lists p.1)[j].id = true) : codeL x = 6 := by
  obtain ⟨h1, h2⟩ := pre_at hp
  have hk : p.1 < x.lists.length := p.2
  have hl := hp.length_le
  rw [allPl_len, List.length_append] at hl
  obtain ⟨i1, -⟩ := heldP_take h2 (by omega)
  rw [i1, ← h1] at hh
  have e := itsL_eq hk
  have hj2 : j < x.lists[p.1].items.length := by rw [← e]; exact hj
  have hh2 : hasI (gatherI (allIs (x.lists.take p.1)) (x.lists[p.1].items.take j)) x.lists[p.1].items[j].id = true := by
    simp only [e] at hh
    exact hh
  rw [codeL, if_neg (taken_fact hk hj2 hh2)]
theorem gather_put {o xs : List DItem} {j : Nat} (hj : j < xs.length) : gatherI o (xs.take (j + 1)) = putI (gatherI o (xs.take j)) xs[j].id xs[j].vec := gatherI_step o xs j hj

end Go.Proofs.YtfgadegpdknocaaGreat
