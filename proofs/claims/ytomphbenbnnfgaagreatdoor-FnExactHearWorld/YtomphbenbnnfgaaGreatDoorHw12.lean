/-
  Texts of this proof in one: ImplCleanN, AsCall, AsMiss, OwnOnceResult, ImplApp, ImplTake, ImplTakeW, ImplHeard, ImplHearS.
  Their conditions stand in their theorems.
-/
import Derived.Test.YtomphbenbnnfgaaGreatDoorHw11
import Derived.Test.YtomphbenbnnfgaaGreatDoorHw09
import Derived.Test.YtomphbenbnnfgaaGreatDoorHw00
import Derived.Test.YtomphbenbnnfgaaGreatDoorHw04
import Derived.Laws.Tables
import Derived.Test.YtomphbenbnnfgaaGreatDoorHw05
import Derived.Test.YtomphbenbnnfgaaGreatDoorHw06
import Derived.Test.YtomphbenbnnfgaaGreatDoorHw08
import Derived.Deep.RegionHeld3
import Derived.Test.YtomphbenbnnfgaaGreatDoorHw07
import Derived.Deep.CutRange
import Derived.Deep.QuietTactic
set_option maxRecDepth 100000
set_option maxHeartbeats 4000000
namespace Go.Proofs.YtomphbenbnnfgaaGreatDoor
open Go.RowKit
theorem lr (cs : List Value) (x : aS) (i : Int) (w : World) (h : ab.aA.Reads w cs x) :
  Calls Tryz.prog 171 #[.agg cs.toArray, .int .i64 i] w fun e w' => ∃ cs, e = .returned (.agg cs.toArray) ∧ ab.da.aL w' cs (fb x i) w.heap.size w'.heap.size ∧ Below w.heap.size w w' := by
 have hN := h
 obtain ⟨a4, d4, rfl, R4⟩ := bt h
 have nb : Below w.heap.size w ((w.alloc (.cells #[.int .i64 x.id, .bool x.up, .int .i64 x.ae, .int .i64 x.ar, .slice a4 x.writes.length d4, .int .i64 x.sure, .int .i64 x.clean] 63)).alloc (.cells #[.int .i64 0, .int .i64 0, .int .i64 0, .bool false, .int .i64 0, .int .i64 0, .slice none 0 0, .int .i64 0, .int .i64 0] 167)) := ((Below.refl _ _).alloc (Nat.le_refl _) _).alloc (by simp) _
 have bR : ag 0 #[.int .i64 0, .int .i64 0, .int .i64 0, .bool false, .int .i64 0, .int .i64 0, .slice none 0 0, .int .i64 0, .int .i64 0] 167 ((w.alloc (.cells #[.int .i64 x.id, .bool x.up, .int .i64 x.ae, .int .i64 x.ar, .slice a4 x.writes.length d4, .int .i64 x.sure, .int .i64 x.clean] 63)).alloc (.cells #[.int .i64 0, .int .i64 0, .int .i64 0, .bool false, .int .i64 0, .int .i64 0, .slice none 0 0, .int .i64 0, .int .i64 0] 167)) (w.heap.size + 1) := bb (Nat.zero_le _) (by simp)
 by_cases hf : cH x = 0
 ·
  have hok := (gx hf).1
  have HL := yh (mG _ x _ (hN.later nb) hf)
  have HA := yh hf
  have HOK := yh hok
  have HB0 := yh nb
  have HR0 := yh bR
  clear hN nb bR R4 hf hok
  go_enter Tryz.func171, Tryz.ntmps171
  go_wp2_with fail
  generalize (w.alloc (.cells #[.int .i64 x.id, .bool x.up, .int .i64 x.ae, .int .i64 x.ar, .slice a4 x.writes.length d4, .int .i64 x.sure, .int .i64 x.clean] 63)).alloc (.cells #[.int .i64 0, .int .i64 0, .int .i64 0, .bool false, .int .i64 0, .int .i64 0, .slice none 0 0, .int .i64 0, .int .i64 0] 167) = W0 at *
  refine (uh HL).mono ?_
  rintro e w1 ⟨g, gw, rfl, hH, O, hg, hb⟩
  have HR1 := yh ((uh HR0).aj hb)
  have hgr : w.heap.size + 1 < g := by have := (uh HR0).lt; omega
  have HB1 := yh ((uh HB0).trans (hb.mono (uh HB0).size))
  have HH1 := yh hH
  have HO1 := yh O
  have hgl := hH.lt
  clear hb HL HB0 HR0 hH O hg
  have LU := yh (eF i 40 w1)
  go_wp2_with fail
  refine (uh LU).mono ?_
  rintro e w2 ⟨rfl, h2⟩
  subst w2
  clear LU
  by_cases hi : 0 ≤ i ∧ i ≤ 40
  ·
   have hd2 : (decide (0 ≤ i) && decide (i ≤ 40)) = true := by simpa using hi
   rw [hd2]
   clear hd2
   have HL2 := yh (vI g _ _ _ x i w1 (uh HH1))
   go_wp2_with fail
   refine (uh HL2).mono ?_
   rintro e w2 ⟨rfl, hH2, hE2⟩
   have HR2 := yh ((uh HR1).ext hE2 (by omega))
   have HO2 := yh ((uh HO1).ext hE2 (fun q h1 h2 h3 => by omega))
   have HB2 := yh ((uh HB1).trans (hE2.below (uh HB1).size (fun q hq e => by omega)))
   have hz2 := hE2.size
   have HH2 := yh hH2
   clear hE2 hH2 HL2 HR1 HO1 HB1 HH1
   have HT := yh (vA g _ _ _ _ w2 (uh HH2))
   go_wp2_with fail
   refine (uh HT).mono ?_
   rintro e w9 ⟨rfl, hb9⟩
   have bR9 := (uh HR2).aj hb9
   have z0 := ag.at bR9 0 _ rfl
   have z1 := ag.at bR9 1 _ rfl
   have z2 := ag.at bR9 2 _ rfl
   have z3 := ag.at bR9 3 _ rfl
   have z4 := ag.at bR9 4 _ rfl
   have z5 := ag.at bR9 5 _ rfl
   have z6 := ag.at bR9 6 _ rfl
   have z7 := ag.at bR9 7 _ rfl
   have z8 := ag.at bR9 8 _ rfl
   simp only [ga, gb, gc] at z0 z1 z2 z3 z4 z5 z6 z7 z8
   have ff := ag.soft bR9
   have l0 := ag.lt bR9
   have HO9 := yh ((uh HO2).later hb9)
   have HB9 := yh ((uh HB2).trans (hb9.mono (uh HB2).size))
   have hz9 := hb9.size
   clear hb9 HT bR9
   go_wp2_with fail
   refine bodyPost_ret (v := .agg #[.int .i64 0, .int .i64 0, .int .i64 x.id, .bool x.up, .int .i64 x.ae, .int .i64 x.ar, .slice (some ⟨gw, 0, none⟩) x.writes.length x.writes.length, .int .i64 x.sure, .int .i64 (max x.clean (min i x.sure))]) (by simp [results, Tryz.results171, go_sem, z0, z1, z2, z3, z4, z5, z6, z7, z8]) rfl ?_
   rw [fb, if_pos (uh HA), if_pos hi]
   obtain ⟨i1, i2, i3, i4, -, -, i7, i8, -⟩ := uh HOK
   have hB9 := aE (uh HB9) (w.heap.size + 1) 0 [.int .i64 0, .int .i64 0, .int .i64 x.id, .bool x.up, .int .i64 x.ae, .int .i64 x.ar, .slice (some ⟨gw, 0, none⟩) x.writes.length x.writes.length, .int .i64 x.sure, .int .i64 (max x.clean (min i x.sure))] (by omega)
   refine ⟨[.int .i64 0, .int .i64 0, .int .i64 x.id, .bool x.up, .int .i64 x.ae, .int .i64 x.ar, .slice (some ⟨gw, 0, none⟩) x.writes.length x.writes.length, .int .i64 x.sure, .int .i64 (max x.clean (min i x.sure))], rfl, ?_, hB9⟩
   have o1 := gh (s := w.heap.size + 1) (vs := [.int .i64 0, .int .i64 0, .int .i64 x.id, .bool x.up, .int .i64 x.ae, .int .i64 x.ar, .slice (some ⟨gw, 0, none⟩) x.writes.length x.writes.length, .int .i64 x.sure, .int .i64 (max x.clean (min i x.sure))]) (uh HO9) (by omega)
   exact ji (x := ⟨x.id, x.up, x.ae, x.ar, x.writes, x.sure, max x.clean (min i x.sure)⟩) (c := 0) (n := 0) (by omega) (by omega) (o1.mono (by omega) (Nat.le_trans (by omega : w1.heap.size ≤ w9.heap.size) (Nat.le_of_eq (bJ w9 (w.heap.size + 1) 0 [.int .i64 0, .int .i64 0, .int .i64 x.id, .bool x.up, .int .i64 x.ae, .int .i64 x.ar, .slice (some ⟨gw, 0, none⟩) x.writes.length x.writes.length, .int .i64 x.sure, .int .i64 (max x.clean (min i x.sure))]).symm))) (by simp only; omega) (by simp only; omega) (by simp only; omega) (by simp only; omega) (by simp only; omega)
  have hd2 : (decide (0 ≤ i) && decide (i ≤ 40)) = false := by
   by_cases h1 : 0 ≤ i
   ·
    simp [h1]; omega
   simp [h1]
  rw [hd2]
  clear hd2
  have bR1 := uh HR1
  have HY : Hid (fb x i = dV 3) := by show fb x i = _; rw [fb, if_pos (uh HA), if_neg hi]
  have z0 := ag.at bR1 0 _ rfl
  have z1 := ag.at bR1 1 _ rfl
  have z2 := ag.at bR1 2 _ rfl
  have z3 := ag.at bR1 3 _ rfl
  have z4 := ag.at bR1 4 _ rfl
  have z5 := ag.at bR1 5 _ rfl
  have z6 := ag.at bR1 6 _ rfl
  have z7 := ag.at bR1 7 _ rfl
  have z8 := ag.at bR1 8 _ rfl
  simp only [ga, gb, gc] at z0 z1 z2 z3 z4 z5 z6 z7 z8
  have ff := ag.soft bR1
  have l0 := ag.lt bR1
  clear bR1
  go_wp2_with fail
  refine bodyPost_ret (v := .agg #[.int .i64 3, .int .i64 0, .int .i64 0, .bool false, .int .i64 0, .int .i64 0, .slice none 0 0, .int .i64 0, .int .i64 0]) (by simp [results, Tryz.results171, go_sem, z0, z1, z2, z3, z4, z5, z6, z7, z8]) rfl ?_
  rw [uh HY]
  have hB9 := aE (uh HB1) (w.heap.size + 1) 0 [.int .i64 3, .int .i64 0, .int .i64 0, .bool false, .int .i64 0, .int .i64 0, .slice none 0 0, .int .i64 0, .int .i64 0] (by omega)
  exact ⟨[.int .i64 3, .int .i64 0, .int .i64 0, .bool false, .int .i64 0, .int .i64 0, .slice none 0 0, .int .i64 0, .int .i64 0], rfl, fz (by decide), hB9⟩
 have HL := yh (ki _ x _ (hN.later nb) hf)
 have hd : (cH x != 0) = true := by simpa using hf
 have HY := yh (qw (x := x) (i := i) hf)
 have HW := yh (mg x)
 have HB0 := yh nb
 have HR0 := yh bR
 clear hN nb bR R4 hf
 generalize cH x = c at *
 go_enter Tryz.func171, Tryz.ntmps171
 go_wp2_with fail
 generalize (w.alloc (.cells #[.int .i64 x.id, .bool x.up, .int .i64 x.ae, .int .i64 x.ar, .slice a4 x.writes.length d4, .int .i64 x.sure, .int .i64 x.clean] 63)).alloc (.cells #[.int .i64 0, .int .i64 0, .int .i64 0, .bool false, .int .i64 0, .int .i64 0, .slice none 0 0, .int .i64 0, .int .i64 0] 167) = W0 at *
 refine (uh HL).mono ?_
 rintro e w1 ⟨rfl, hb⟩
 have bR1 := (uh HR0).aj hb
 have z0 := ag.at bR1 0 _ rfl
 have z1 := ag.at bR1 1 _ rfl
 have z2 := ag.at bR1 2 _ rfl
 have z3 := ag.at bR1 3 _ rfl
 have z4 := ag.at bR1 4 _ rfl
 have z5 := ag.at bR1 5 _ rfl
 have z6 := ag.at bR1 6 _ rfl
 have z7 := ag.at bR1 7 _ rfl
 have z8 := ag.at bR1 8 _ rfl
 simp only [ga, gb, gc] at z0 z1 z2 z3 z4 z5 z6 z7 z8
 have ff := ag.soft bR1
 have l0 := ag.lt bR1
 have HB1 := yh ((uh HB0).trans (hb.mono (uh HB0).size))
 clear hb HL HB0 HR0 bR1
 go_wp2_with fail
 refine bodyPost_ret (v := .agg #[.int .i64 c, .int .i64 0, .int .i64 0, .bool false, .int .i64 0, .int .i64 0, .slice none 0 0, .int .i64 0, .int .i64 0]) (by simp [results, Tryz.results171, go_sem, z0, z1, z2, z3, z4, z5, z6, z7, z8]) rfl ?_
 rw [uh HY]
 have hB9 := aE (uh HB1) (w.heap.size + 1) 0 [.int .i64 c, .int .i64 0, .int .i64 0, .bool false, .int .i64 0, .int .i64 0, .slice none 0 0, .int .i64 0, .int .i64 0] (by omega)
 exact ⟨[.int .i64 c, .int .i64 0, .int .i64 0, .bool false, .int .i64 0, .int .i64 0, .slice none 0 0, .int .i64 0, .int .i64 0], rfl, fz (uh HW), hB9⟩
end Go.Proofs.YtomphbenbnnfgaaGreatDoor

namespace Go.Proofs.YtomphbenbnnfgaaGreatDoor
open Go.RowKit Go.Extern.Stop Go.Stop Go.Extern
theorem tD : (Tryz.prog.info? 285).map (·.size) = some 2 := by kernel_rfl
theorem wN (tb b : Nat) (x y : Int) (o0 o1 : Value) (W : World) (hb : W.heap[b]? = some (.cells #[.int .i64 x, .int .i64 y] 285 (0, 0))) (ht : W.heap[tb]? = some (.cells #[o0, o1] 285 (0, 0))) :
  (ReflectliteValue.set #[.agg #[.pointer (some ⟨2, 285, none⟩), .pointer (some ⟨tb, 0, none⟩), .int .u64 409], .agg #[.pointer (some ⟨2, 285, none⟩), .pointer (some ⟨b, 0, none⟩), .int .u64 153]]).run Tryz.prog W
   = .ok (.tuple #[]) (W.setRow tb #[.int .i64 x, .int .i64 y]) := by
 have hl := run_loadVar_row W b 285 285 _ (0, 0) _ hb Tryz.underlying285 rfl tD
 have hs := run_storeVar_row W tb 285 285 _ #[.int .i64 x, .int .i64 y] ht tD rfl (by simp [Value.oneCell'])
 rw [wP]
 simp only [Sem.run_bind, tm, sE, Result.andThen]
 simp [ReflectliteValue.flagAddr, hl, hs, Result.andThen, tk]
theorem ny {B tb : Nat} {w w' : World} (h : Below B w w') (hb : B ≤ tb) (cs : Array Value) : Below B w (w'.setRow tb cs) :=
 ⟨h.os, h.tape, h.output, by simpa using h.size, fun k hk => (setRow_other w' tb k cs (by omega)).trans (h.block k hk)⟩
theorem vR (x y : Int) (tb : Nat) (o0 o1 : Value) (w : World) (hg : nn w) (ht : w.heap[tb]? = some (.cells #[o0, o1] 285 (0, 0))) :
  Calls Tryz.prog 231 #[.iface 285 (.agg #[.int .i64 x, .int .i64 y]), .iface 287 (.pointer (some ⟨tb, 0, none⟩))] w fun ev w' => ev = .returned (.bool true) ∧ Below tb w w' := by
 have htl : tb < w.heap.size := lt_of_block ht
 have n1 : Below w.heap.size w (w.alloc (.cells #[.pointer (some ⟨tb, 0, none⟩)] 287)) := (Below.refl _ _).alloc (Nat.le_refl _) _
 have n2 := n1.alloc n1.size (.cells #[.pointer (some ⟨2, 287, none⟩), .pointer (some ⟨w.heap.size, 0, none⟩), .int .u64 150] 293)
 have n3 := n2.alloc n2.size (.cells #[.pointer (some ⟨2, 287, none⟩), .pointer (some ⟨w.heap.size, 0, none⟩), .int .u64 150] 293)
 have n4 := n3.alloc n3.size (.cells #[.int .i64 x, .int .i64 y] 285)
 have b1 : ag 0 #[.pointer (some ⟨tb, 0, none⟩)] 287 (w.alloc (.cells #[.pointer (some ⟨tb, 0, none⟩)] 287)) w.heap.size := aC (Nat.zero_le _)
 have b2 := b1.aj ((Below.refl _ _).alloc (Nat.le_refl _) (.cells #[.pointer (some ⟨2, 287, none⟩), .pointer (some ⟨w.heap.size, 0, none⟩), .int .u64 150] 293))
 have b3 := b2.aj ((Below.refl _ _).alloc (Nat.le_refl _) (.cells #[.pointer (some ⟨2, 287, none⟩), .pointer (some ⟨w.heap.size, 0, none⟩), .int .u64 150] 293))
 have c2 := b2.at 0 (.pointer (some ⟨tb, 0, none⟩)) rfl
 have c3 := b3.at 0 (.pointer (some ⟨tb, 0, none⟩)) rfl
 have n8 := qX ⟨w.heap.size, 0, none⟩ ⟨tb, 0, none⟩ _ c2
 have el := uJ ⟨w.heap.size, 0, none⟩ ⟨tb, 0, none⟩ _ c3
 have hg2 := (n2.cell (p := ⟨1, 0, none⟩) (World.block_lt_of_cell? _ _ hg)).trans hg
 have bO := aC (lo := 0) (cs := #[.int .i64 x, .int .i64 y]) (T := 285) (W := (((w.alloc (.cells #[.pointer (some ⟨tb, 0, none⟩)] 287)).alloc (.cells #[.pointer (some ⟨2, 287, none⟩), .pointer (some ⟨w.heap.size, 0, none⟩), .int .u64 150] 293)).alloc (.cells #[.pointer (some ⟨2, 287, none⟩), .pointer (some ⟨w.heap.size, 0, none⟩), .int .u64 150] 293))) (Nat.zero_le _)
 have st := wN tb _ x y o0 o1 _ bO.2 ((n4.block tb htl).trans ht)
 have es : (((w.alloc (.cells #[.pointer (some ⟨tb, 0, none⟩)] 287)).alloc (.cells #[.pointer (some ⟨2, 287, none⟩), .pointer (some ⟨w.heap.size, 0, none⟩), .int .u64 150] 293)).alloc (.cells #[.pointer (some ⟨2, 287, none⟩), .pointer (some ⟨w.heap.size, 0, none⟩), .int .u64 150] 293)).heap.size = w.heap.size + 1 + 1 + 1 := by simp
 rw [es] at st
 have HB := yh (ny (n4.mono (Nat.le_of_lt htl)) (Nat.le_refl _) #[.int .i64 x, .int .i64 y])
 have h6 := @run_callFunc_extern Tryz.prog 234 _ (fun args => ReflectliteValue.unpack (args.getD 0 (.tuple #[]))) Tryz.func234 (by kernel_rfl) (by kernel_rfl) (by kernel_rfl) (by kernel_rfl)
 have h7 := @run_callFunc_extern Tryz.prog 235 _ (ReflectliteValue.methodAny (ReflectliteValue.valueError "reflectlite.Value.Type" 0) (fun t _ _ _ => ReflectliteType.toType t)) Tryz.func235 (by kernel_rfl) (by kernel_rfl) (by kernel_rfl) (by kernel_rfl)
 have h8 := @run_callFunc_extern Tryz.prog 236 _ (ReflectliteValue.method (ReflectliteValue.valueError "reflectlite.Value.IsNil" 0) ReflectliteValue.isNil) Tryz.func236 (by kernel_rfl) (by kernel_rfl) (by kernel_rfl) (by kernel_rfl)
 have h27 := @run_callFunc_extern Tryz.prog 258 _ (ReflectliteType.abiMethod fun t => do pure (.int .u8 (← Rtype.kind t))) Tryz.func258 (by kernel_rfl) (by kernel_rfl) (by kernel_rfl) (by kernel_rfl)
 have h37 := @run_callFunc_extern Tryz.prog 271 _ (ReflectliteType.method ReflectliteType.elem) Tryz.func271 (by kernel_rfl) (by kernel_rfl) (by kernel_rfl) (by kernel_rfl)
 have h38 := @run_callFunc_extern Tryz.prog 272 _ (ReflectliteType.relation "Implements" ReflectliteType.implements_) Tryz.func272 (by kernel_rfl) (by kernel_rfl) (by kernel_rfl) (by kernel_rfl)
 have h10 := @run_callFunc_extern Tryz.prog 239 _ ReflectliteType.typeOf Tryz.func239 (by kernel_rfl) (by kernel_rfl) (by kernel_rfl) (by kernel_rfl)
 have h35 := @run_callFunc_extern Tryz.prog 269 _ (ReflectliteType.relation "AssignableTo" ReflectliteType.assignableTo) Tryz.func269 (by kernel_rfl) (by kernel_rfl) (by kernel_rfl) (by kernel_rfl)
 have h11 := @run_callFunc_extern Tryz.prog 240 _ (ReflectliteValue.method (ReflectliteValue.valueError "reflectlite.Value.Elem" 0) ReflectliteValue.elem) Tryz.func240 (by kernel_rfl) (by kernel_rfl) (by kernel_rfl) (by kernel_rfl)
 have h12 := @run_callFunc_extern Tryz.prog 241 _ ReflectliteValue.set Tryz.func241 (by kernel_rfl) (by kernel_rfl) (by kernel_rfl) (by kernel_rfl)
 have tO := uK
 have mA := ma
 have aO := wC
 have vO := wY
 have f6 := wW
 have f7 := sC
 have mK := qZ
 have mE := qy
 have mI := qV
 have kP := qD
 have kO := qE
 have eT := qQ
 have iO := s9
 clear ht hg n1 n2 n3 n4 b1 b2 b3 c2 c3 bO es
 go_enter Tryz.func231, Tryz.ntmps231
 go_wp2
 refine wp_loop_rounds 1 ?_
 rw [rounds_succ]
 go_wp2
 go_ret
 exact ⟨rfl, uh HB⟩
end Go.Proofs.YtomphbenbnnfgaaGreatDoor

namespace Go.Proofs.YtomphbenbnnfgaaGreatDoor
open Go.RowKit Go.Extern.Stop Go.Stop Go.Extern
theorem uF (e : Addr) (tb : Nat) (w : World) (hg : nn w) :
  Calls Tryz.prog 231 #[.iface 318 (.pointer (some e)), .iface 287 (.pointer (some ⟨tb, 0, none⟩))] w fun ev w' => ev = .returned (.bool false) ∧ Below w.heap.size w w' := by
 have n1 : Below w.heap.size w (w.alloc (.cells #[.pointer (some ⟨tb, 0, none⟩)] 287)) := (Below.refl _ _).alloc (Nat.le_refl _) _
 have n2 := n1.alloc n1.size (.cells #[.pointer (some ⟨2, 287, none⟩), .pointer (some ⟨w.heap.size, 0, none⟩), .int .u64 150] 293)
 have n3 := n2.alloc n2.size (.cells #[.pointer (some ⟨2, 287, none⟩), .pointer (some ⟨w.heap.size, 0, none⟩), .int .u64 150] 293)
 have b1 : ag 0 #[.pointer (some ⟨tb, 0, none⟩)] 287 (w.alloc (.cells #[.pointer (some ⟨tb, 0, none⟩)] 287)) w.heap.size := aC (Nat.zero_le _)
 have b2 := b1.aj ((Below.refl _ _).alloc (Nat.le_refl _) (.cells #[.pointer (some ⟨2, 287, none⟩), .pointer (some ⟨w.heap.size, 0, none⟩), .int .u64 150] 293))
 have c2 := b2.at 0 (.pointer (some ⟨tb, 0, none⟩)) rfl
 have n8 := qX ⟨w.heap.size, 0, none⟩ ⟨tb, 0, none⟩ _ c2
 have hg2 := (n2.cell (p := ⟨1, 0, none⟩) (World.block_lt_of_cell? _ _ hg)).trans hg
 have HB := yh n3
 have h6 := @run_callFunc_extern Tryz.prog 234 _ (fun args => ReflectliteValue.unpack (args.getD 0 (.tuple #[]))) Tryz.func234 (by kernel_rfl) (by kernel_rfl) (by kernel_rfl) (by kernel_rfl)
 have h7 := @run_callFunc_extern Tryz.prog 235 _ (ReflectliteValue.methodAny (ReflectliteValue.valueError "reflectlite.Value.Type" 0) (fun t _ _ _ => ReflectliteType.toType t)) Tryz.func235 (by kernel_rfl) (by kernel_rfl) (by kernel_rfl) (by kernel_rfl)
 have h8 := @run_callFunc_extern Tryz.prog 236 _ (ReflectliteValue.method (ReflectliteValue.valueError "reflectlite.Value.IsNil" 0) ReflectliteValue.isNil) Tryz.func236 (by kernel_rfl) (by kernel_rfl) (by kernel_rfl) (by kernel_rfl)
 have h27 := @run_callFunc_extern Tryz.prog 258 _ (ReflectliteType.abiMethod fun t => do pure (.int .u8 (← Rtype.kind t))) Tryz.func258 (by kernel_rfl) (by kernel_rfl) (by kernel_rfl) (by kernel_rfl)
 have h37 := @run_callFunc_extern Tryz.prog 271 _ (ReflectliteType.method ReflectliteType.elem) Tryz.func271 (by kernel_rfl) (by kernel_rfl) (by kernel_rfl) (by kernel_rfl)
 have h38 := @run_callFunc_extern Tryz.prog 272 _ (ReflectliteType.relation "Implements" ReflectliteType.implements_) Tryz.func272 (by kernel_rfl) (by kernel_rfl) (by kernel_rfl) (by kernel_rfl)
 have h10 := @run_callFunc_extern Tryz.prog 239 _ ReflectliteType.typeOf Tryz.func239 (by kernel_rfl) (by kernel_rfl) (by kernel_rfl) (by kernel_rfl)
 have h35 := @run_callFunc_extern Tryz.prog 269 _ (ReflectliteType.relation "AssignableTo" ReflectliteType.assignableTo) Tryz.func269 (by kernel_rfl) (by kernel_rfl) (by kernel_rfl) (by kernel_rfl)
 have tO := uL
 have mA := ma
 have aO := vZ
 have q1 := fun (v : Value) (w : World) => run_typeAssert_lacksB (P := Tryz.prog) (t := 318) (z := .nilIface) Tryz.underlying309 (by kernel_rfl) (by kernel_rfl) v 277 w
 have q2 := fun (v : Value) (w : World) => run_typeAssert_lacksB (P := Tryz.prog) (t := 318) (z := .nilIface) Tryz.underlying312 (by kernel_rfl) (by kernel_rfl) v 277 w
 have q3 := fun (v : Value) (w : World) => run_typeAssert_lacksB (P := Tryz.prog) (t := 318) (z := .nilIface) Tryz.underlying314 (by kernel_rfl) (by kernel_rfl) v 277 w
 have f6 := wW
 have f7 := sC
 have mK := qZ
 have mE := qy
 have mI := qV
 have kP := qD
 have kO := qE
 have eT := qQ
 have iO := s9
 clear hg n1 n2 n3 b1 b2 c2
 go_enter Tryz.func231, Tryz.ntmps231
 go_wp2
 refine wp_loop_rounds 1 ?_
 rw [rounds_succ]
 go_wp2
 go_ret
 exact ⟨rfl, uh HB⟩
theorem o9 (x y : Int) (w : World) (hg : nn w) : Calls Tryz.prog 223 #[.iface 285 (.agg #[.int .i64 x, .int .i64 y])] w fun e w' => e = .returned (.int .i64 7) ∧ Below w.heap.size w w' := by
 have n1 : Below w.heap.size w (w.alloc (.cells #[.int .i64 0, .int .i64 0] 285)) := (Below.refl _ _).alloc (Nat.le_refl _) _
 have bB := aC (lo := 0) (cs := #[.int .i64 0, .int .i64 0]) (T := 285) (W := w) (Nat.zero_le _)
 have HL := yh (vR x y w.heap.size _ _ _ ((n1.cell (p := ⟨1, 0, none⟩) (World.block_lt_of_cell? _ _ hg)).trans hg) bB.2)
 have HB := yh n1
 clear n1 bB hg
 go_enter Tryz.func223, Tryz.ntmps223
 go_wp2_with fail
 refine (uh HL).mono ?_
 rintro e w2 ⟨rfl, hb⟩
 have HB2 := yh ((uh HB).trans hb)
 clear hb HL HB
 go_wp2_with fail
 go_ret
 exact ⟨rfl, uh HB2⟩
theorem nh (e : Addr) (w : World) (hg : nn w) : Calls Tryz.prog 223 #[.iface 318 (.pointer (some e))] w fun e w' => e = .returned (.int .i64 2) ∧ Below w.heap.size w w' := by
 have n1 : Below w.heap.size w (w.alloc (.cells #[.int .i64 0, .int .i64 0] 285)) := (Below.refl _ _).alloc (Nat.le_refl _) _
 have HL := yh (uF e w.heap.size _ ((n1.cell (p := ⟨1, 0, none⟩) (World.block_lt_of_cell? _ _ hg)).trans hg))
 have HB := yh n1
 clear n1 hg
 go_enter Tryz.func223, Tryz.ntmps223
 go_wp2_with fail
 refine (uh HL).mono ?_
 rintro e w2 ⟨rfl, hb⟩
 have HB2 := yh ((uh HB).trans (hb.mono (uh HB).size))
 clear hb HL HB
 go_wp2_with fail
 go_ret
 exact ⟨rfl, uh HB2⟩
end Go.Proofs.YtomphbenbnnfgaaGreatDoor

namespace Go.Proofs.YtomphbenbnnfgaaGreatDoor
open Go.RowKit
theorem gM {w : World} {cs : List Value} {x : eg} {bl : List Nat} (h : ab.ei.Own w cs x bl) : ∃ (a3 : Option Addr) (d3 : Nat) (g3 : List Nat), cs = [.int .i64 x.code, .bool x.dz, .int .i64 x.place, .slice a3 x.writes.length d3] ∧ bl = g3 ∧ (ab.sl ab.ai).Own w [.slice a3 x.writes.length d3] x.writes g3 ∧ (Lit.int .i64 x.code).wf = true ∧ (Lit.int .i64 x.place).wf = true := by
 obtain ⟨hl, hn, hf⟩ := h
 obtain ⟨a3, d3, b3, rfl, hbl, w0, w2, l3⟩ := jS.1 hl
 rw [hbl] at hn hf
 exact ⟨a3, d3, b3, rfl, hbl, ⟨l3, hn, hf⟩, w0, w2⟩
theorem iU {w : World} {x : eg} {c3 : List Value} {g3 : List Nat} (O3 : (ab.sl ab.ai).Own w c3 x.writes g3) (v0 : (Lit.int .i64 x.code).wf = true) (v2 : (Lit.int .i64 x.place).wf = true) (hn : (g3).Nodup) : ab.ei.Own w ([.int .i64 x.code] ++ ([.bool x.dz] ++ ([.int .i64 x.place] ++ c3))) x (g3) := by
 refine ⟨⟨[.int .i64 x.code], [.bool x.dz] ++ ([.int .i64 x.place] ++ c3), [], [] ++ ([] ++ g3), rfl, by simp, ⟨rfl, v0, rfl⟩, ⟨[.bool x.dz], [.int .i64 x.place] ++ c3, [], [] ++ g3, rfl, rfl, ⟨rfl, rfl⟩, ⟨[.int .i64 x.place], c3, [], g3, rfl, rfl, ⟨rfl, v2, rfl⟩, O3.1⟩⟩⟩, hn, ?_⟩
 intro b hb o
 exact O3.2.2 b hb o
theorem sO {x : au} (h : wF x = 0) : (Lit.int .i64 x.aa).wf = true ∧ (Lit.int .i64 x.seq).wf = true := by
 have := jX h
 exact ⟨aK (by omega), aK (by omega)⟩
theorem kD {w : World} {c : Int} {b : Bool} {n : Int} {v : Value} {xs : List au} {lo hi : Nat} (hc : (Lit.int .i64 c).wf = true) (hn : (Lit.int .i64 n).wf = true) (h : (ab.sl ab.ai).aL w [v] xs lo hi) : ab.ei.aL w [.int .i64 c, .bool b, .int .i64 n, v] ⟨c, b, n, xs⟩ lo hi := by
 obtain ⟨bl, O, i⟩ := h
 exact ⟨bl, iU (x := ⟨c, b, n, xs⟩) O hc hn O.2.1, i⟩
theorem eS {w : World} {c : Int} {lo hi : Nat} (hc : (Lit.int .i64 c).wf = true) : ab.ei.aL w [.int .i64 c, .bool false, .int .i64 0, .slice none 0 0] ⟨c, false, 0, []⟩ lo hi := kD hc (by decide) ⟨[], ⟨⟨none, 0, rfl, by simp, Or.inl ⟨rfl, rfl⟩⟩, by simp, by simp⟩, by simp⟩
theorem va {lo B : Nat} {cs : Array Value} {T : TypeId} {W w' : World} {s : Nat} (h : ag lo cs T W s) (hb : Below B W w') (hs : s < B) : ag lo cs T w' s := ⟨h.1, (hb.block s hs).trans h.2⟩
theorem mF {w : World} {p mb N : Nat} {ws : List au} {v : Value} {rows : List (List Value)} {bls : List (List Nat)} (h : Told w p mb N ws v rows bls) : ∃ ao cap, v = .slice ao ws.length cap := by
 rcases h.grow.form with ⟨rfl, rfl⟩ | ⟨g, cap, rfl, -⟩
 ·
  exact ⟨_, _, rfl⟩
 exact ⟨_, _, rfl⟩
theorem te {B b : Nat} {w w' : World} (h : Below B w w') (hb : B ≤ b) (v0 v1 v2 v3 : Value) : Below B w ((((w'.setCell ⟨b, 0, none⟩ v0).setCell ⟨b, 1, none⟩ v1).setCell ⟨b, 2, none⟩ v2).setCell ⟨b, 3, none⟩ v3) := (((h.setCell (by simpa using hb) _).setCell (by simpa using hb) _).setCell (by simpa using hb) _).setCell (by simpa using hb) _
theorem qJ (v : Value) (ws : List au) (u : List Value) (x : au) (w : World) (hE : iK w) (h : (ab.sl ab.ai).Reads w [v] ws) (hx : ab.ai.Reads w u x) :
  Calls Tryz.prog 202 #[v, .agg u.toArray] w fun e w' => ∃ cs, e = .returned (.agg cs.toArray) ∧ ab.ei.aL w' cs (ca ws x) w.heap.size w'.heap.size ∧ Below w.heap.size w w' := by
 obtain ⟨a2, d2, rfl, R2⟩ := bg hx
 have n1 : Below w.heap.size w (w.alloc (.cells #[.int .i64 x.kind, .int .i64 x.id, .slice a2 x.vec.length d2, .int .i64 x.aa, .int .i64 x.seq] 44)) := (Below.refl _ _).alloc (Nat.le_refl _) _
 have nb := n1.alloc n1.size (.cells #[.int .i64 0, .bool false, .int .i64 0, .slice none 0 0] 258)
 have hQ1 : ag 0 #[.int .i64 x.kind, .int .i64 x.id, .slice a2 x.vec.length d2, .int .i64 x.aa, .int .i64 x.seq] 44 (w.alloc (.cells #[.int .i64 x.kind, .int .i64 x.id, .slice a2 x.vec.length d2, .int .i64 x.aa, .int .i64 x.seq] 44)) w.heap.size := aC (Nat.zero_le _)
 have HQ := yh (hQ1.aj ((Below.refl _ _).alloc (Nat.le_refl _) (.cells #[.int .i64 0, .bool false, .int .i64 0, .slice none 0 0] 258)))
 have hsz1 : (w.alloc (.cells #[.int .i64 x.kind, .int .i64 x.id, .slice a2 x.vec.length d2, .int .i64 x.aa, .int .i64 x.seq] 44)).heap.size = w.heap.size + 1 := by simp
 have HBR : Hid (ag w.heap.size #[.int .i64 0, .bool false, .int .i64 0, .slice none 0 0] 258 ((w.alloc (.cells #[.int .i64 x.kind, .int .i64 x.id, .slice a2 x.vec.length d2, .int .i64 x.aa, .int .i64 x.seq] 44)).alloc (.cells #[.int .i64 0, .bool false, .int .i64 0, .slice none 0 0] 258)) (w.heap.size + 1)) := by
  have := aC (lo := w.heap.size) (cs := #[.int .i64 0, .bool false, .int .i64 0, .slice none 0 0]) (T := 258) (W := w.alloc (.cells #[.int .i64 x.kind, .int .i64 x.id, .slice a2 x.vec.length d2, .int .i64 x.aa, .int .i64 x.seq] 44)) n1.size
  rwa [hsz1] at this
 have HL := yh (la _ ws _ (h.later nb))
 have HR2 := yh (R2.later nb)
 have HE := yh (hE.later nb)
 have HB0 := yh nb
 have hsz : ((w.alloc (.cells #[.int .i64 x.kind, .int .i64 x.id, .slice a2 x.vec.length d2, .int .i64 x.aa, .int .i64 x.seq] 44)).alloc (.cells #[.int .i64 0, .bool false, .int .i64 0, .slice none 0 0] 258)).heap.size = w.heap.size + 2 := by simp
 obtain ⟨ao, cap, rfl⟩ := aI h
 clear n1 nb hQ1 hsz1 h hx R2 hE
 go_enter Tryz.func202, Tryz.ntmps202
 go_wp2_with fail
 generalize (w.alloc (.cells #[.int .i64 x.kind, .int .i64 x.id, .slice a2 x.vec.length d2, .int .i64 x.aa, .int .i64 x.seq] 44)).alloc (.cells #[.int .i64 0, .bool false, .int .i64 0, .slice none 0 0] 258) = W1 at *
 refine (uh HL).mono ?_
 rintro e w2 ⟨r, rfl, g0, g1, hb⟩
 rw [hsz] at g0
 have bR := (uh HBR).aj hb
 have HB2 := yh ((uh HB0).trans (hb.mono (uh HB0).size))
 have HQ2 := yh ((uh HQ).aj hb)
 have HR3 := yh ((uh HR2).later hb)
 have HE2 := yh ((uh HE).later hb)
 clear hb HL HB0 HBR HQ HR2 HE
 by_cases hfw : aM ws = 0
 ·
  obtain ⟨rfl, v2, rows, bls, hT⟩ := g0 hfw
  clear g0 g1
  have HFW := yh hfw
  rw [hfw]
  clear hfw
  have y0 : w2.cell? ⟨w.heap.size, 0, none⟩ = some (.int .i64 x.kind) := (uh HQ2).at 0 _ rfl
  have y1 : w2.cell? ⟨w.heap.size, 1, none⟩ = some (.int .i64 x.id) := (uh HQ2).at 1 _ rfl
  have y2 : w2.cell? ⟨w.heap.size, 2, none⟩ = some (.slice a2 x.vec.length d2) := (uh HQ2).at 2 _ rfl
  have y3 : w2.cell? ⟨w.heap.size, 3, none⟩ = some (.int .i64 x.aa) := (uh HQ2).at 3 _ rfl
  have y4 : w2.cell? ⟨w.heap.size, 4, none⟩ = some (.int .i64 x.seq) := (uh HQ2).at 4 _ rfl
  have L := km x.kind x.id (.slice a2 x.vec.length d2) x.aa x.seq x.vec w2 (ab.bf (uh HR3))
  simp only [dE] at L
  rw [show aQ x.kind x.id x.vec x.aa x.seq = wF x from rfl] at L
  have HL := yh L
  have HT := yh hT
  have HBR := yh bR
  clear L hT bR
  go_wp2_with fail
  clear y0 y1 y2 y3 y4
  refine (uh HL).mono ?_
  rintro e w4 ⟨rfl, hb⟩
  have bR := (uh HBR).aj hb
  have HB4 := yh ((uh HB2).trans (hb.mono (uh HB2).size))
  have hQ4 := (uh HQ2).aj hb
  have HE4 := yh ((uh HE2).later hb)
  have hT4 := (uh HT).later hb
  clear hb HL HBR HB2 HQ2 HE2 HT HR3
  by_cases hf : wF x = 0
  ·
   rw [hf, show fX x.kind x.id x.vec x.aa x.seq = ix x.kind x.vec from if_pos hf]
   have HDV : Hid (∀ W : World, Calls Tryz.prog 142 #[ix x.kind x.vec, .int .i64 x.id, .int .i64 x.aa, .int .i64 x.seq] W fun e w' => ∃ cs, e = .returned (.agg cs.toArray) ∧ ab.ai.aL w' cs x W.heap.size w'.heap.size ∧ Below W.heap.size W w') := fun W => oE x W hf
   generalize hdv : ix x.kind x.vec = dv at *
   clear hdv
   obtain ⟨bs, hbs⟩ : ∃ bs, bs = decide (bV ws x.aa x.seq ≠ 0) := ⟨_, rfl⟩
   have HBS := yh hbs
   clear hbs
   go_wp2_with fail
   refine wZz (fun w' => Below w4.heap.size w4 w') (Below.refl _ _).drew (fun zq => ?_)
   refine tkH 0 zq ?_
   refine tkH 1 zq ?_
   refine tkH 2 zq ?_
   refine tkJ 3 (v := ?vk3) ?hk3 zq ?rk3
   case hk3 =>
    intro wS hSw
    have y0 : wS.cell? ⟨w.heap.size, 0, none⟩ = some (.int .i64 x.kind) := (hQ4.aj hSw).at 0 _ rfl
    have y1 : wS.cell? ⟨w.heap.size, 1, none⟩ = some (.int .i64 x.id) := (hQ4.aj hSw).at 1 _ rfl
    have y2 : wS.cell? ⟨w.heap.size, 2, none⟩ = some (.slice a2 x.vec.length d2) := (hQ4.aj hSw).at 2 _ rfl
    have y3 : wS.cell? ⟨w.heap.size, 3, none⟩ = some (.int .i64 x.aa) := (hQ4.aj hSw).at 3 _ rfl
    have y4 : wS.cell? ⟨w.heap.size, 4, none⟩ = some (.int .i64 x.seq) := (hQ4.aj hSw).at 4 _ rfl
    have zm : wS.cell? ⟨w.heap.size + 2 + 1, 1, none⟩ = some (.map (some (w.heap.size + 2))) := (hT4.box.aj hSw).at 1 _ rfl
    clear hSw
    exact fZ
   refine tkJ 4 (v := ?vk4) ?hk4 zq ?rk4
   case hk4 =>
    intro wS hSw
    have y0 : wS.cell? ⟨w.heap.size, 0, none⟩ = some (.int .i64 x.kind) := (hQ4.aj hSw).at 0 _ rfl
    have y1 : wS.cell? ⟨w.heap.size, 1, none⟩ = some (.int .i64 x.id) := (hQ4.aj hSw).at 1 _ rfl
    have y2 : wS.cell? ⟨w.heap.size, 2, none⟩ = some (.slice a2 x.vec.length d2) := (hQ4.aj hSw).at 2 _ rfl
    have y3 : wS.cell? ⟨w.heap.size, 3, none⟩ = some (.int .i64 x.aa) := (hQ4.aj hSw).at 3 _ rfl
    have y4 : wS.cell? ⟨w.heap.size, 4, none⟩ = some (.int .i64 x.seq) := (hQ4.aj hSw).at 4 _ rfl
    have zm : wS.cell? ⟨w.heap.size + 2 + 1, 1, none⟩ = some (.map (some (w.heap.size + 2))) := (hT4.box.aj hSw).at 1 _ rfl
    clear hSw
    exact fZ
   refine rdH 5 (fun K hK => ?_)
   go_simp
   go_at_call 163
   refine (qH _ _ _ _ _ _ _ _).mono ?_
   rintro e w7 ⟨rfl, hb7⟩
   simp only [tick]
   try go_wp2_with fail
   refine hK.out _ _ (zq.trans (hb7.mono zq.size)) (fun zq => ?_)
   clear hK K
   try simp only [Act.put, pz, py, px]
   refine tkJ 6 (v := ?vk6) ?hk6 zq ?rk6
   case hk6 =>
    intro wS hSw
    have hlk := (hT4.later hSw).seen.look (sO hf).1 (sO hf).2
    simp only [tick] at hlk
    rw [← uh HBS] at hlk
    clear hSw
    exact fZ
   refine tkH 7 zq ?_
   refine tkH 8 zq ?_
   refine tkH 9 zq ?_
   refine tkH 10 zq ?_
   refine tkH 11 zq ?_
   refine dZ ?_
   have hT5 := (hT4.later zq)
   have bR5 := bR.aj zq
   have hQ5 := hQ4.aj zq
   have HB5 := yh ((uh HB4).trans (zq.mono (uh HB4).size))
   have HE5 := yh ((uh HE4).later zq)
   clear zq hT4 hQ4 bR HB4 HE4 hb7
   by_cases hsn : bV ws x.aa x.seq = 0
   ·
    obtain rfl : bs = false := by rw [uh HBS]; simpa using hsn
    have hbs := HBS
    clear HBS hbs
    obtain ⟨ea, hF⟩ := (uh HE5).2
    have HRF := yh (tg hT5 x a2 d2 hf ea hF)
    have y0 : w7.cell? ⟨w.heap.size, 0, none⟩ = some (.int .i64 x.kind) := hQ5.at 0 _ rfl
    have y1 : w7.cell? ⟨w.heap.size, 1, none⟩ = some (.int .i64 x.id) := hQ5.at 1 _ rfl
    have y2 : w7.cell? ⟨w.heap.size, 2, none⟩ = some (.slice a2 x.vec.length d2) := hQ5.at 2 _ rfl
    have y3 : w7.cell? ⟨w.heap.size, 3, none⟩ = some (.int .i64 x.aa) := hQ5.at 3 _ rfl
    have y4 : w7.cell? ⟨w.heap.size, 4, none⟩ = some (.int .i64 x.seq) := hQ5.at 4 _ rfl
    have HT5 := yh hT5
    have HBR5 := yh bR5
    have HQ5 := yh hQ5
    have HF := yh hf
    have HSN := yh hsn
    clear hT5 bR5 hQ5 hf hsn hF
    go_wp2_with fail
    clear y0 y1 y2 y3 y4
    refine (uh HRF).mono ?_
    rintro e w8 ⟨rfl, hb8⟩
    have hT8 := (uh HT5).later hb8
    have bR := (uh HBR5).aj hb8
    have hQ8 := (uh HQ5).aj hb8
    have HB8 := yh ((uh HB5).trans (hb8.mono (uh HB5).size))
    have HE8 := yh ((uh HE5).later hb8)
    clear hb8 HT5 HBR5 HQ5 HB5 HE5 HRF
    by_cases c1 : x.seq < aT ws x.aa
    ·
     rw [show ja ea ws x = _ from if_pos c1]
     have HG : Hid (ca ws x = ⟨7, false, 0, []⟩) := gv (uh HFW) (uh HF) (uh HSN) c1
     have HRC := yh (o9 x.seq (aT ws x.aa) w8 (uh HE8).1)
     have HBR := yh bR
     clear c1 bR hT8 hQ8 HE8
     go_wp2_with fail
     refine (uh HRC).mono ?_
     rintro e w9 ⟨rfl, hb9⟩
     have bR := (uh HBR).aj hb9
     have HB9 := yh ((uh HB8).trans (hb9.mono (uh HB8).size))
     have z0 : w9.cell? ⟨w.heap.size + 1, 0, none⟩ = some (.int .i64 0) := bR.at 0 _ rfl
     have z1 : w9.cell? ⟨w.heap.size + 1, 1, none⟩ = some (.bool false) := bR.at 1 _ rfl
     have z2 : w9.cell? ⟨w.heap.size + 1, 2, none⟩ = some (.int .i64 0) := bR.at 2 _ rfl
     have z3 : w9.cell? ⟨w.heap.size + 1, 3, none⟩ = some (.slice none 0 0) := bR.at 3 _ rfl
     have f0 := bR.soft 0
     have f1 := bR.soft 1
     have f2 := bR.soft 2
     have f3 := bR.soft 3
     have l0 := bR.lt
     clear bR hb9 HRC HBR HB8
     go_wp2_with fail
     refine bodyPost_ret (v := .agg #[.int .i64 (7), .bool false, .int .i64 0, .slice none 0 0]) (by simp [results, Tryz.results202, go_sem, z0, z1, z2, z3]) rfl ?_
     rw [uh HG]
     exact ⟨_, rfl, eS (by decide), ((((uh HB9).setCell (by simp) _).setCell (by simp) _).setCell (by simp) _).setCell (by simp) _⟩
    by_cases c2 : 200 ≤ ws.length
    ·
     rw [show ja ea ws x = .iface 318 (.pointer (some ea)) by rw [ja, if_neg c1, if_pos c2]]
     have HG : Hid (ca ws x = ⟨2, false, 0, []⟩) := fS (uh HFW) (uh HF) (uh HSN) c1 c2
     have HRC := yh (nh ea w8 (uh HE8).1)
     have HBR := yh bR
     clear c1 c2 bR hT8 hQ8 HE8
     go_wp2_with fail
     refine (uh HRC).mono ?_
     rintro e w9 ⟨rfl, hb9⟩
     have bR := (uh HBR).aj hb9
     have HB9 := yh ((uh HB8).trans (hb9.mono (uh HB8).size))
     have z0 : w9.cell? ⟨w.heap.size + 1, 0, none⟩ = some (.int .i64 0) := bR.at 0 _ rfl
     have z1 : w9.cell? ⟨w.heap.size + 1, 1, none⟩ = some (.bool false) := bR.at 1 _ rfl
     have z2 : w9.cell? ⟨w.heap.size + 1, 2, none⟩ = some (.int .i64 0) := bR.at 2 _ rfl
     have z3 : w9.cell? ⟨w.heap.size + 1, 3, none⟩ = some (.slice none 0 0) := bR.at 3 _ rfl
     have f0 := bR.soft 0
     have f1 := bR.soft 1
     have f2 := bR.soft 2
     have f3 := bR.soft 3
     have l0 := bR.lt
     clear bR hb9 HRC HBR HB8
     go_wp2_with fail
     refine bodyPost_ret (v := .agg #[.int .i64 (2), .bool false, .int .i64 0, .slice none 0 0]) (by simp [results, Tryz.results202, go_sem, z0, z1, z2, z3]) rfl ?_
     rw [uh HG]
     exact ⟨_, rfl, eS (by decide), ((((uh HB9).setCell (by simp) _).setCell (by simp) _).setCell (by simp) _).setCell (by simp) _⟩
    rw [show ja ea ws x = .nilIface by rw [ja, if_neg c1, if_neg c2]]
    have HG : Hid (ca ws x = ⟨0, true, (ws.length : Int) + 1, ws ++ [x]⟩) := gO (uh HFW) (uh HF) (uh HSN) c1 c2
    have y1 : w8.cell? ⟨w.heap.size, 1, none⟩ = some (.int .i64 x.id) := hQ8.at 1 _ rfl
    have y3 : w8.cell? ⟨w.heap.size, 3, none⟩ = some (.int .i64 x.aa) := hQ8.at 3 _ rfl
    have y4 : w8.cell? ⟨w.heap.size, 4, none⟩ = some (.int .i64 x.seq) := hQ8.at 4 _ rfl
    have hlen : ws.length < 1000 := by omega
    have HT8 := yh hT8.top
    have HBR := yh bR
    clear c1 c2 bR hT8 hQ8 HE8 HSN HFW
    go_wp2_with fail
    clear y1 y3 y4
    refine (uh HDV w8).mono ?_
    rintro e w10 ⟨cs, rfl, ⟨bl, hO, hr⟩, hb10⟩
    have HC := yh (vG ((uh HT8).later hb10) hO.1 (fun c hc => ⟨(hr c hc).1, hO.2.2 c hc⟩) hO.2.1 hb10.size (uh HF) hlen)
    have HB10 := yh ((uh HB8).trans (hb10.mono (uh HB8).size))
    have HBR10 := yh ((uh HBR).aj hb10)
    clear hO hr hb10 HB8 HBR HT8 HDV HF
    go_wp2_with fail
    refine (uh HC).mono ?_
    rintro e w12 ⟨rfl, ⟨v4, rows4, bls4, hT12⟩, hb12⟩
    have HB12 := yh ((uh HB10).trans (hb12.mono (Nat.le_add_right _ _)))
    have bR12 := va (uh HBR10) hb12 (by omega)
    obtain ⟨ao9, cp9, hv9⟩ : ∃ ao cap, v4 = .slice ao (ws.length + 1) cap := by
     obtain ⟨ao, cap, e⟩ := mF hT12
     exact ⟨ao, cap, by rw [e]; simp⟩
    subst hv9
    have HO12 := yh (hT12.own (by simp; omega))
    clear hb12 HB10 HBR10 HC
    go_wp2_with fail
    have bS : ag w.heap.size #[.int .i64 0, .bool false, .int .i64 0, .slice none 0 0] 258 w12.drew (w.heap.size + 1) := bR12
    have hBS : Below w.heap.size w w12.drew := (uh HB12).drew
    have hOS : (ab.sl ab.ai).aL w12.drew [.slice ao9 (ws.length + 1) cp9] (ws ++ [x]) (w.heap.size + 2 + 1 + 1) w12.drew.heap.size := (uh HO12).later (dt (Below.refl _ _) 1)
    refine wZz (fun w' => Ext (fun c => c = w.heap.size + 1) w12 w') (Ext.refl _ _).jY (fun zq => ?_)
    generalize w12.drew = wS14 at zq bS hBS hOS ⊢
    refine tkH 0 zq ?_
    refine tkH 1 zq ?_
    refine tkH 2 zq ?_
    refine tkJ 3 (v := ?vm3) ?hm3 zq ?rm3
    case hm3 =>
     intro wS hSw
     have zp : wS.cell? ⟨w.heap.size + 2 + 1, 0, none⟩ = some (.slice ao9 (ws.length + 1) cp9) := (hT12.box.ext hSw (by omega)).at 0 _ rfl
     clear hSw
     exact fZ
    refine tkH 4 zq ?_
    refine tkH 5 zq ?_
    refine tkH 6 zq ?_
    refine tkH 7 zq ?_
    refine tkJ 8 (v := ?vm8) ?hm8 zq ?rm8
    case hm8 =>
     intro wS hSw
     have zp : wS.cell? ⟨w.heap.size + 2 + 1, 0, none⟩ = some (.slice ao9 (ws.length + 1) cp9) := (hT12.box.ext hSw (by omega)).at 0 _ rfl
     clear hSw
     exact fZ
    refine tkH 9 zq ?_
    refine rdH 10 (fun K hK => ?_)
    have zz0 : wS14.cell? ⟨w.heap.size + 1, 0, none⟩ = some (.int .i64 0) := bS.at 0 _ rfl
    have zz1 : wS14.cell? ⟨w.heap.size + 1, 1, none⟩ = some (.bool false) := bS.at 1 _ rfl
    have zz2 : wS14.cell? ⟨w.heap.size + 1, 2, none⟩ = some (.int .i64 0) := bS.at 2 _ rfl
    have zz3 : wS14.cell? ⟨w.heap.size + 1, 3, none⟩ = some (.slice none 0 0) := bS.at 3 _ rfl
    have f0 := bS.soft 0
    have f1 := bS.soft 1
    have f2 := bS.soft 2
    have f3 := bS.soft 3
    have l0 := bS.lt
    go_simp
    refine hK.out _ _ ((((zq.setCell ⟨w.heap.size + 1, 0, none⟩ _ rfl).setCell ⟨w.heap.size + 1, 1, none⟩ _ rfl).setCell ⟨w.heap.size + 1, 2, none⟩ _ rfl).setCell ⟨w.heap.size + 1, 3, none⟩ _ rfl) (fun zq => ?_)
    clear hK K
    try simp only [Act.put, pz, py, px]
    refine dZ ?_
    have HBZ := yh (te hBS (Nat.le_add_right _ 1) (.int .i64 0) (.bool true) (.int .i64 ((ws.length : Int) + 1)) (.slice ao9 (ws.length + 1) cp9))
    have hE : Ext (fun c => c = w.heap.size + 1) wS14 ((((wS14.setCell ⟨w.heap.size + 1, 0, none⟩ (.int .i64 0)).setCell ⟨w.heap.size + 1, 1, none⟩ (.bool true)).setCell ⟨w.heap.size + 1, 2, none⟩ (.int .i64 ((ws.length : Int) + 1))).setCell ⟨w.heap.size + 1, 3, none⟩ (.slice ao9 (ws.length + 1) cp9)) := ((((Ext.refl (fun c => c = w.heap.size + 1) _).setCell ⟨w.heap.size + 1, 0, none⟩ _ rfl).setCell ⟨w.heap.size + 1, 1, none⟩ _ rfl).setCell ⟨w.heap.size + 1, 2, none⟩ _ rfl).setCell ⟨w.heap.size + 1, 3, none⟩ _ rfl
    have HOZ : Hid ((ab.sl ab.ai).aL ((((wS14.setCell ⟨w.heap.size + 1, 0, none⟩ (.int .i64 0)).setCell ⟨w.heap.size + 1, 1, none⟩ (.bool true)).setCell ⟨w.heap.size + 1, 2, none⟩ (.int .i64 ((ws.length : Int) + 1))).setCell ⟨w.heap.size + 1, 3, none⟩ (.slice ao9 (ws.length + 1) cp9)) [.slice ao9 (ws.length + 1) cp9] (ws ++ [x]) w.heap.size ((((wS14.setCell ⟨w.heap.size + 1, 0, none⟩ (.int .i64 0)).setCell ⟨w.heap.size + 1, 1, none⟩ (.bool true)).setCell ⟨w.heap.size + 1, 2, none⟩ (.int .i64 ((ws.length : Int) + 1))).setCell ⟨w.heap.size + 1, 3, none⟩ (.slice ao9 (ws.length + 1) cp9)).heap.size) := (hOS.ext hE (fun c h1 _ h3 => by omega)).mono (by omega) (by simp)
    have zz := bS
    have z0 : ((((wS14.setCell ⟨w.heap.size + 1, 0, none⟩ (.int .i64 0)).setCell ⟨w.heap.size + 1, 1, none⟩ (.bool true)).setCell ⟨w.heap.size + 1, 2, none⟩ (.int .i64 ((ws.length : Int) + 1))).setCell ⟨w.heap.size + 1, 3, none⟩ (.slice ao9 (ws.length + 1) cp9)).cell? ⟨w.heap.size + 1, 0, none⟩ = some (.int .i64 0) := ((((bS.set 0 (.int .i64 0)).set 1 (.bool true)).set 2 (.int .i64 ((ws.length : Int) + 1))).set 3 (.slice ao9 (ws.length + 1) cp9)).at 0 _ rfl
    have z1 : ((((wS14.setCell ⟨w.heap.size + 1, 0, none⟩ (.int .i64 0)).setCell ⟨w.heap.size + 1, 1, none⟩ (.bool true)).setCell ⟨w.heap.size + 1, 2, none⟩ (.int .i64 ((ws.length : Int) + 1))).setCell ⟨w.heap.size + 1, 3, none⟩ (.slice ao9 (ws.length + 1) cp9)).cell? ⟨w.heap.size + 1, 1, none⟩ = some (.bool true) := ((((bS.set 0 (.int .i64 0)).set 1 (.bool true)).set 2 (.int .i64 ((ws.length : Int) + 1))).set 3 (.slice ao9 (ws.length + 1) cp9)).at 1 _ rfl
    have z2 : ((((wS14.setCell ⟨w.heap.size + 1, 0, none⟩ (.int .i64 0)).setCell ⟨w.heap.size + 1, 1, none⟩ (.bool true)).setCell ⟨w.heap.size + 1, 2, none⟩ (.int .i64 ((ws.length : Int) + 1))).setCell ⟨w.heap.size + 1, 3, none⟩ (.slice ao9 (ws.length + 1) cp9)).cell? ⟨w.heap.size + 1, 2, none⟩ = some (.int .i64 ((ws.length : Int) + 1)) := ((((bS.set 0 (.int .i64 0)).set 1 (.bool true)).set 2 (.int .i64 ((ws.length : Int) + 1))).set 3 (.slice ao9 (ws.length + 1) cp9)).at 2 _ rfl
    have z3 : ((((wS14.setCell ⟨w.heap.size + 1, 0, none⟩ (.int .i64 0)).setCell ⟨w.heap.size + 1, 1, none⟩ (.bool true)).setCell ⟨w.heap.size + 1, 2, none⟩ (.int .i64 ((ws.length : Int) + 1))).setCell ⟨w.heap.size + 1, 3, none⟩ (.slice ao9 (ws.length + 1) cp9)).cell? ⟨w.heap.size + 1, 3, none⟩ = some (.slice ao9 (ws.length + 1) cp9) := ((((bS.set 0 (.int .i64 0)).set 1 (.bool true)).set 2 (.int .i64 ((ws.length : Int) + 1))).set 3 (.slice ao9 (ws.length + 1) cp9)).at 3 _ rfl
    clear zq bS hBS hOS hE zz hT12 bR12 HB12 HO12
    generalize ((((wS14.setCell ⟨w.heap.size + 1, 0, none⟩ (.int .i64 0)).setCell ⟨w.heap.size + 1, 1, none⟩ (.bool true)).setCell ⟨w.heap.size + 1, 2, none⟩ (.int .i64 ((ws.length : Int) + 1))).setCell ⟨w.heap.size + 1, 3, none⟩ (.slice ao9 (ws.length + 1) cp9)) = wZ at *
    go_wp2_with fail
    refine bodyPost_ret (v := .agg #[.int .i64 0, .bool true, .int .i64 ((ws.length : Int) + 1), .slice ao9 (ws.length + 1) cp9]) (by simp [results, Tryz.results202, go_sem, z0, z1, z2, z3]) rfl ?_
    rw [uh HG]
    exact ⟨_, rfl, kD (by decide) (aK (by omega)) (uh HOZ), uh HBZ⟩
   obtain rfl : bs = true := by rw [uh HBS]; simpa using hsn
   have HG : Hid (ca ws x = ⟨0, false, bV ws x.aa x.seq, ws⟩) := fM (uh HFW) hf hsn
   have hlen := (dK (uh HFW)).1
   have hsl := Nat.le_trans (kS ws x.aa x.seq) hlen
   obtain ⟨ao9, cp9, rfl⟩ := mF hT5
   have zp : w7.cell? ⟨w.heap.size + 2 + 1, 0, none⟩ = some (.slice ao9 ws.length cp9) := hT5.box.at 0 _ rfl
   have HO := yh (hT5.own (by omega))
   have bR := bR5
   have z0 : w7.cell? ⟨w.heap.size + 1, 0, none⟩ = some (.int .i64 0) := bR.at 0 _ rfl
   have z1 : w7.cell? ⟨w.heap.size + 1, 1, none⟩ = some (.bool false) := bR.at 1 _ rfl
   have z2 : w7.cell? ⟨w.heap.size + 1, 2, none⟩ = some (.int .i64 0) := bR.at 2 _ rfl
   have z3 : w7.cell? ⟨w.heap.size + 1, 3, none⟩ = some (.slice none 0 0) := bR.at 3 _ rfl
   have f0 := bR.soft 0
   have f1 := bR.soft 1
   have f2 := bR.soft 2
   have f3 := bR.soft 3
   have l0 := bR.lt
   have hE : Ext (fun c => c = w.heap.size + 1) w7 ((((w7.setCell ⟨w.heap.size + 1, 0, none⟩ (.int .i64 0)).setCell ⟨w.heap.size + 1, 1, none⟩ (.bool false)).setCell ⟨w.heap.size + 1, 2, none⟩ (.int .i64 (bV ws x.aa x.seq))).setCell ⟨w.heap.size + 1, 3, none⟩ (.slice ao9 ws.length cp9)) := ((((Ext.refl (fun c => c = w.heap.size + 1) _).setCell ⟨w.heap.size + 1, 0, none⟩ _ rfl).setCell ⟨w.heap.size + 1, 1, none⟩ _ rfl).setCell ⟨w.heap.size + 1, 2, none⟩ _ rfl).setCell ⟨w.heap.size + 1, 3, none⟩ _ rfl
   have HOZ : Hid ((ab.sl ab.ai).aL ((((w7.setCell ⟨w.heap.size + 1, 0, none⟩ (.int .i64 0)).setCell ⟨w.heap.size + 1, 1, none⟩ (.bool false)).setCell ⟨w.heap.size + 1, 2, none⟩ (.int .i64 (bV ws x.aa x.seq))).setCell ⟨w.heap.size + 1, 3, none⟩ (.slice ao9 ws.length cp9)) [.slice ao9 ws.length cp9] ws w.heap.size ((((w7.setCell ⟨w.heap.size + 1, 0, none⟩ (.int .i64 0)).setCell ⟨w.heap.size + 1, 1, none⟩ (.bool false)).setCell ⟨w.heap.size + 1, 2, none⟩ (.int .i64 (bV ws x.aa x.seq))).setCell ⟨w.heap.size + 1, 3, none⟩ (.slice ao9 ws.length cp9)).heap.size) := ((uh HO).ext hE (fun c h1 _ h3 => by omega)).mono (by omega) (by simp)
   have HBZ := yh (te (uh HB5) (Nat.le_add_right _ 1) (.int .i64 0) (.bool false) (.int .i64 (bV ws x.aa x.seq)) (.slice ao9 ws.length cp9))
   clear HBS hsn bR bR5 hT5 hQ5 HE5 HO hE HB5 hf
   go_wp2_with fail
   refine bodyPost_ret (v := .agg #[.int .i64 0, .bool false, .int .i64 (bV ws x.aa x.seq), .slice ao9 ws.length cp9]) (by simp [results, Tryz.results202, go_sem, z0, z1, z2, z3]) rfl ?_
   rw [uh HG]
   exact ⟨_, rfl, kD (by decide) (aK (by omega)) (uh HOZ), uh HBZ⟩
  have hd : (wF x != 0) = true := by simpa using hf
  have HG : Hid (ca ws x = ⟨wF x, false, 0, []⟩) := pe (uh HFW) hf
  have HWF := yh (wX x)
  generalize hdr : fX x.kind x.id x.vec x.aa x.seq = dr at *
  have z0 : w4.cell? ⟨w.heap.size + 1, 0, none⟩ = some (.int .i64 0) := bR.at 0 _ rfl
  have z1 : w4.cell? ⟨w.heap.size + 1, 1, none⟩ = some (.bool false) := bR.at 1 _ rfl
  have z2 : w4.cell? ⟨w.heap.size + 1, 2, none⟩ = some (.int .i64 0) := bR.at 2 _ rfl
  have z3 : w4.cell? ⟨w.heap.size + 1, 3, none⟩ = some (.slice none 0 0) := bR.at 3 _ rfl
  have f0 := bR.soft 0
  have f1 := bR.soft 1
  have f2 := bR.soft 2
  have f3 := bR.soft 3
  have l0 := bR.lt
  clear hf hdr bR hQ4 hT4 HE4
  go_wp2_with fail
  refine bodyPost_ret (v := .agg #[.int .i64 (wF x), .bool false, .int .i64 0, .slice none 0 0]) (by simp [results, Tryz.results202, go_sem, z0, z1, z2, z3]) rfl ?_
  rw [uh HG]
  exact ⟨_, rfl, eS (uh HWF), ((((uh HB4).setCell (by simp) _).setCell (by simp) _).setCell (by simp) _).setCell (by simp) _⟩
 obtain rfl := g1 hfw
 clear g0 g1
 have HG : Hid (ca ws x = ⟨aM ws, false, 0, []⟩) := qq hfw
 have HWF := yh (sF ws)
 have hd : (aM ws != 0) = true := by simpa using hfw
 have z0 : w2.cell? ⟨w.heap.size + 1, 0, none⟩ = some (.int .i64 0) := bR.at 0 _ rfl
 have z1 : w2.cell? ⟨w.heap.size + 1, 1, none⟩ = some (.bool false) := bR.at 1 _ rfl
 have z2 : w2.cell? ⟨w.heap.size + 1, 2, none⟩ = some (.int .i64 0) := bR.at 2 _ rfl
 have z3 : w2.cell? ⟨w.heap.size + 1, 3, none⟩ = some (.slice none 0 0) := bR.at 3 _ rfl
 have f0 := bR.soft 0
 have f1 := bR.soft 1
 have f2 := bR.soft 2
 have f3 := bR.soft 3
 have l0 := bR.lt
 clear hfw bR HQ2 HR3 HE2
 go_wp2_with fail
 refine bodyPost_ret (v := .agg #[.int .i64 (aM ws), .bool false, .int .i64 0, .slice none 0 0]) (by simp [results, Tryz.results202, go_sem, z0, z1, z2, z3]) rfl ?_
 rw [uh HG]
 exact ⟨_, rfl, eS (uh HWF), ((((uh HB2).setCell (by simp) _).setCell (by simp) _).setCell (by simp) _).setCell (by simp) _⟩
theorem wV (g gw : Nat) (x : aS) (u : List Value) (y : au) (w : World) (hE : iK w) (h : dG w g (.slice (some ⟨gw, 0, none⟩) x.writes.length x.writes.length) x) (R : (ab.sl ab.ai).Reads w [.slice (some ⟨gw, 0, none⟩) x.writes.length x.writes.length] x.writes) (hy : ab.ai.Reads w u y) :
  Calls Tryz.prog 160 #[.pointer (some ⟨g, 0, none⟩), .agg u.toArray] w fun e w' => ∃ at' : Int, e = .returned (.tuple #[.int .i64 at', .int .i64 (aV (ca x.writes y))]) ∧ (aV (ca x.writes y) = 0 → at' = (ca x.writes y).place ∧ ∃ a n c, dG w' g (.slice a n c) x ∧ (ab.sl ab.ai).aL w' [.slice a n c] (ca x.writes y).writes w.heap.size w'.heap.size) ∧ Ext (fun q => q = g) w w' := by
 have hyy := hy
 obtain ⟨a2, d2, rfl, -⟩ := bg hyy
 clear hyy
 have nb : Below w.heap.size w (w.alloc (.cells #[.int .i64 y.kind, .int .i64 y.id, .slice a2 y.vec.length d2, .int .i64 y.aa, .int .i64 y.seq] 44)) := (Below.refl _ _).alloc (Nat.le_refl _) _
 have bY : ag 0 #[.int .i64 y.kind, .int .i64 y.id, .slice a2 y.vec.length d2, .int .i64 y.aa, .int .i64 y.seq] 44 (w.alloc (.cells #[.int .i64 y.kind, .int .i64 y.id, .slice a2 y.vec.length d2, .int .i64 y.aa, .int .i64 y.seq] 44)) w.heap.size := aC (Nat.zero_le _)
 have hH0 := h.aj nb
 have k0 := ag.at hH0 0 _ rfl
 simp only [List.getElem_toArray, List.getElem_cons_zero] at k0
 have hgl := hH0.lt
 have q0 := ag.at bY 0 _ rfl
 have q1 := ag.at bY 1 _ rfl
 have q2 := ag.at bY 2 _ rfl
 have q3 := ag.at bY 3 _ rfl
 have q4 := ag.at bY 4 _ rfl
 simp only [ga, gb, gc] at q0 q1 q2 q3 q4
 have hyl := bY.lt
 have hBD : Below w.heap.size w (w.alloc (.cells #[.int .i64 y.kind, .int .i64 y.id, .slice a2 y.vec.length d2, .int .i64 y.aa, .int .i64 y.seq] 44)).drew := nb.drew
 have hgw := h.lt
 clear nb bY
 generalize hr : ca x.writes y = r
 have HRR := yh hr
 clear hr
 go_enter Tryz.func160, Tryz.ntmps160
 go_wp2_with fail
 generalize w.alloc (.cells #[.int .i64 y.kind, .int .i64 y.id, .slice a2 y.vec.length d2, .int .i64 y.aa, .int .i64 y.seq] 44) = W0 at *
 refine wZz (fun w' => Below W0.heap.size W0 w') (Below.refl _ _).drew (fun zq => ?_)
 generalize W0.drew = wD at zq hBD ⊢
 refine tkH 0 zq ?_
 refine tkH 1 zq ?_
 refine tkH 2 zq ?_
 refine tkJ 3 (v := ?vt3_4) ?ht3_4 zq ?rt3_4
 case ht3_4 =>
  intro wS hSw
  have y0 : wS.cell? ⟨g, 0, none⟩ = some (.slice (some ⟨gw, 0, none⟩) x.writes.length x.writes.length) := (hSw.cell (p := ⟨g, 0, none⟩) hgl).trans k0
  clear hSw
  exact fZ
 refine tkJ 4 (v := ?vt4_5) ?ht4_5 zq ?rt4_5
 case ht4_5 =>
  intro wS hSw
  have v0 : wS.cell? ⟨w.heap.size, 0, none⟩ = some (.int .i64 y.kind) := (hSw.cell (p := ⟨w.heap.size, 0, none⟩) hyl).trans q0
  have v1 : wS.cell? ⟨w.heap.size, 1, none⟩ = some (.int .i64 y.id) := (hSw.cell (p := ⟨w.heap.size, 1, none⟩) hyl).trans q1
  have v2 : wS.cell? ⟨w.heap.size, 2, none⟩ = some (.slice a2 y.vec.length d2) := (hSw.cell (p := ⟨w.heap.size, 2, none⟩) hyl).trans q2
  have v3 : wS.cell? ⟨w.heap.size, 3, none⟩ = some (.int .i64 y.aa) := (hSw.cell (p := ⟨w.heap.size, 3, none⟩) hyl).trans q3
  have v4 : wS.cell? ⟨w.heap.size, 4, none⟩ = some (.int .i64 y.seq) := (hSw.cell (p := ⟨w.heap.size, 4, none⟩) hyl).trans q4
  clear hSw
  exact fZ
 refine wpAnyH_ready (rs := [5, 6]) (by kernel_rfl) (by simp) ?_
 refine AllReadyH.cons (o := ⟨some 12, .call { callee := .value (.func 202), args := #[.tmp 10, .tmp 11], argTypes := #[61, 44] }, 258, "l09_node.go:43", #[⟨3, .data⟩, ⟨4, .data⟩], none⟩) rfl (fun K hK => ?ot5_6) (AllReadyH.cons (o := ⟨some 6, .alloc 258, 0, "l09_node.go:43", #[], none⟩) rfl (fun K hK => ?ot6_6) (AllReadyH.nil))
 case ot5_6 =>
  have hHD := zq.size
  have hW : Below w.heap.size w wD := hBD
  go_simp
  go_at_call 202
  refine (qJ _ x.writes _ y _ (hE.later hW) (R.later hW) (hy.later hW)).mono ?_
  rintro e w3 ⟨cs3, rfl, O3, hb3⟩
  rw [uh HRR] at O3
  obtain ⟨bl3, Ow3, hr3⟩ := O3
  obtain ⟨a3, d3, g3, rfl, hbl3, Os3, -⟩ := gM Ow3
  subst hbl3
  have OW : (ab.sl ab.ai).aL w3 [.slice a3 r.writes.length d3] r.writes (wD).heap.size w3.heap.size := ⟨_, Os3, hr3⟩
  clear Os3 Ow3 hr3
  have hBw := hW.trans (hb3.mono hW.size)
  try go_wp2_with fail
  have hH3 := zq.trans (hb3.mono zq.size)
  refine hK.out _ _ (zq.trans (hb3.mono zq.size)) (fun zq => ?_)
  clear hK K
  try simp only [Act.put, pz, py, px]
  refine rdH 6 (fun K hK => ?_)
  go_simp
  refine hK.out _ _ (zq.alloc zq.size _) (fun zq => ?_)
  clear hK K
  try simp only [Act.put, pz, py, px]
  refine rdH 7 (fun K hK => ?_)
  go_simp
  try go_wp2_with fail
  refine hK.out _ _ (hH3.alloc hH3.size _) (fun zq => ?_)
  clear hK K
  try simp only [Act.put, pz, py, px]
  refine dZ ?_
  have hGO : g ≠ w3.heap.size := by have h1 := hBD.size; have h2 := hb3.size; omega
  have bO : ag 0 #[.int .i64 r.code, .bool r.dz, .int .i64 r.place, .slice a3 r.writes.length d3] 258 (w3.alloc (.cells #[.int .i64 r.code, .bool r.dz, .int .i64 r.place, .slice a3 r.writes.length d3] 258)) w3.heap.size := aC (Nat.zero_le _)
  have nb4 : Below w3.heap.size w3 (w3.alloc (.cells #[.int .i64 r.code, .bool r.dz, .int .i64 r.place, .slice a3 r.writes.length d3] 258)) := (Below.refl _ _).alloc (Nat.le_refl _) _
  have oO := (OW.later nb4).mono (lo' := w.heap.size) (hi' := (w3.alloc (.cells #[.int .i64 r.code, .bool r.dz, .int .i64 r.place, .slice a3 r.writes.length d3] 258)).heap.size) hBD.size nb4.size
  have hBF := hBw.trans (nb4.mono hBw.size)
  clear nb4 hH3
  clear zq OW hBw hb3 hW
  have hHF := h.aj hBF
  have ez := oO.reads.ez
  generalize hWF : (w3.alloc (.cells #[.int .i64 r.code, .bool r.dz, .int .i64 r.place, .slice a3 r.writes.length d3] 258)) = WF at *
  clear hWF
  generalize hob : w3.heap.size = ob at *
  clear hob
  clear k0
  have k0 := ag.at hHF 0 _ rfl
  simp only [List.getElem_toArray, List.getElem_cons_zero] at k0
  have kf := ag.soft hHF
  have kl := ag.lt hHF
  have z0 := ag.at bO 0 _ rfl
  have z2 := ag.at bO 2 _ rfl
  have z3 := ag.at bO 3 _ rfl
  simp only [ga, gb, gc] at z0 z2 z3
  have zl := ag.lt bO
  have HOF := yh oO
  have HBF := yh hBF
  have HHF := yh hHF
  clear oO hBF hHF bO hBD hHD q0 q1 q2 q3 q4 hyl hgl h R hy hE hH0
  by_cases hc : r.code = 0
  ·
   rw [hc] at z0
   by_cases h40 : 40 < r.writes.length
   ·
    have HT : Hid (aV r = 2) := by show aV r = 2; rw [aV, if_pos hc, if_pos h40]
    have hd : decide ((40 : Int) < (r.writes.length : Int)) = true := by simp; omega
    clear hc h40
    go_wp2_with fail
    refine bodyPost_ret (v := .tuple #[.int .i64 0, .int .i64 2]) (by simp [results, Tryz.results160, go_sem]) rfl ?_
    refine ⟨0, by rw [uh HT], fun h0 => ?_, ak (uh HBF) _⟩
    rw [uh HT] at h0
    exact absurd h0 (by decide)
   have HT : Hid (aV r = 0) := by show aV r = 0; rw [aV, if_pos hc, if_neg h40]
   have hd : decide ((40 : Int) < (r.writes.length : Int)) = false := by simp; omega
   have HBX : Hid (dG (WF.setCell ⟨g, 0, none⟩ (.slice a3 r.writes.length d3)) g (.slice a3 r.writes.length d3) x) := ag.set (uh HHF) 0 (.slice a3 r.writes.length d3)
   have e1 : Ext (fun q => q = g) WF (WF.setCell ⟨g, 0, none⟩ (.slice a3 r.writes.length d3)) := (Ext.refl (fun q => q = g) _).setCell ⟨g, 0, none⟩ _ rfl
   have HE1 := yh ((ak (uh HBF) _).trans e1)
   have HO1 : Hid ((ab.sl ab.ai).aL (WF.setCell ⟨g, 0, none⟩ (.slice a3 r.writes.length d3)) [.slice a3 r.writes.length d3] r.writes w.heap.size (WF.setCell ⟨g, 0, none⟩ (.slice a3 r.writes.length d3)).heap.size) := ((uh HOF).ext e1 (fun q h1 h2 h3 => by omega)).mono (Nat.le_refl _) (by simp)
   have hgo : g ≠ ob := hGO
   clear hc e1 h40
   go_wp2_with fail
   refine bodyPost_ret (v := .tuple #[.int .i64 r.place, .int .i64 0]) (by simp [results, Tryz.results160, go_sem]) rfl ?_
   exact ⟨r.place, by rw [uh HT], fun _ => ⟨rfl, a3, r.writes.length, d3, uh HBX, uh HO1⟩, uh HE1⟩
  have HT : Hid (aV r = r.code) := by show aV r = r.code; rw [aV, if_neg hc]
  have HC := yh hc
  have hd : (r.code != 0) = true := by simpa using hc
  clear hc
  generalize r.code = cc at *
  go_wp2_with fail
  refine wZz (fun w' => w' = WF.drew) rfl (fun zq => ?_)
  refine tkH 0 zq ?_
  refine tkJ 1 (v := ?vu1) ?hu1 zq ?ru1
  case hu1 =>
   intro wS hSw
   have v0 : wS.cell? ⟨ob, 0, none⟩ = some (.int .i64 cc) := by rw [hSw]; exact z0
   clear hSw
   exact fZ
  refine tkH 2 zq ?_
  refine tkH 3 zq ?_
  refine dZ ?_
  clear zq
  go_wp2_with fail
  refine bodyPost_ret (v := .tuple #[.int .i64 0, .int .i64 cc]) (by simp [results, Tryz.results160, go_sem]) rfl ?_
  refine ⟨0, by rw [uh HT], fun h0 => ?_, ak (uh HBF).drew _⟩
  rw [uh HT] at h0
  exact absurd h0 (uh HC)
 case ot6_6 =>
  have hHD := zq.size
  go_simp
  refine hK.out _ _ (zq.alloc zq.size _) (fun zq => ?_)
  clear hK K
  try simp only [Act.put, pz, py, px]
  refine rdH 5 (fun K hK => ?_)
  have hW : Below w.heap.size w (wD.alloc (.cells #[.int .i64 0, .bool false, .int .i64 0, .slice none 0 0] 258)) := hBD.alloc hBD.size _
  have hO3 : ag 0 #[.int .i64 0, .bool false, .int .i64 0, .slice none 0 0] 258 (wD.alloc (.cells #[.int .i64 0, .bool false, .int .i64 0, .slice none 0 0] 258)) wD.heap.size := aC (Nat.zero_le _)
  go_simp
  go_at_call 202
  refine (qJ _ x.writes _ y _ (hE.later hW) (R.later hW) (hy.later hW)).mono ?_
  rintro e w3 ⟨cs3, rfl, O3, hb3⟩
  rw [uh HRR] at O3
  obtain ⟨bl3, Ow3, hr3⟩ := O3
  obtain ⟨a3, d3, g3, rfl, hbl3, Os3, -⟩ := gM Ow3
  subst hbl3
  have OW : (ab.sl ab.ai).aL w3 [.slice a3 r.writes.length d3] r.writes ((wD.alloc (.cells #[.int .i64 0, .bool false, .int .i64 0, .slice none 0 0] 258))).heap.size w3.heap.size := ⟨_, Os3, hr3⟩
  clear Os3 Ow3 hr3
  have hBw := hW.trans (hb3.mono hW.size)
  try go_wp2_with fail
  have hO4 := hO3.aj hb3
  refine hK.out _ _ (zq.trans (hb3.mono zq.size)) (fun zq => ?_)
  clear hK K
  try simp only [Act.put, pz, py, px]
  refine rdH 7 (fun K hK => ?_)
  have z0 := ag.at hO4 0 _ rfl
  have z1 := ag.at hO4 1 _ rfl
  have z2 := ag.at hO4 2 _ rfl
  have z3 := ag.at hO4 3 _ rfl
  simp only [ga, gb, gc] at z0 z1 z2 z3
  have ff := ag.soft hO4
  have l0 := ag.lt hO4
  go_simp
  try go_wp2_with fail
  refine hK.out _ _ (aE zq wD.heap.size 0 [.int .i64 r.code, .bool r.dz, .int .i64 r.place, .slice a3 r.writes.length d3] (by omega)) (fun zq => ?_)
  clear hK K
  try simp only [Act.put, pz, py, px]
  refine dZ ?_
  have hGO : g ≠ wD.heap.size := by have h1 := hBD.size; have h2 := hgw; omega
  have bO : ag 0 #[.int .i64 r.code, .bool r.dz, .int .i64 r.place, .slice a3 r.writes.length d3] 258 ((((w3.setCell ⟨wD.heap.size, 0, none⟩ (.int .i64 r.code)).setCell ⟨wD.heap.size, 1, none⟩ (.bool r.dz)).setCell ⟨wD.heap.size, 2, none⟩ (.int .i64 r.place)).setCell ⟨wD.heap.size, 3, none⟩ (.slice a3 r.writes.length d3)) wD.heap.size := by have q := ag.set (ag.set (ag.set (ag.set hO4 0 (.int .i64 r.code)) 1 (.bool r.dz)) 2 (.int .i64 r.place)) 3 (.slice a3 r.writes.length d3); simp only [List.setIfInBounds_toArray, List.set_cons_zero, List.set_cons_succ] at q; exact q
  have hzD : wD.heap.size < (wD.alloc (.cells #[.int .i64 0, .bool false, .int .i64 0, .slice none 0 0] 258)).heap.size := by simp
  have hzF : ((((w3.setCell ⟨wD.heap.size, 0, none⟩ (.int .i64 r.code)).setCell ⟨wD.heap.size, 1, none⟩ (.bool r.dz)).setCell ⟨wD.heap.size, 2, none⟩ (.int .i64 r.place)).setCell ⟨wD.heap.size, 3, none⟩ (.slice a3 r.writes.length d3)).heap.size = w3.heap.size := bJ w3 wD.heap.size 0 [.int .i64 r.code, .bool r.dz, .int .i64 r.place, .slice a3 r.writes.length d3]
  have oO : (ab.sl ab.ai).aL ((((w3.setCell ⟨wD.heap.size, 0, none⟩ (.int .i64 r.code)).setCell ⟨wD.heap.size, 1, none⟩ (.bool r.dz)).setCell ⟨wD.heap.size, 2, none⟩ (.int .i64 r.place)).setCell ⟨wD.heap.size, 3, none⟩ (.slice a3 r.writes.length d3)) [.slice a3 r.writes.length d3] r.writes w.heap.size ((((w3.setCell ⟨wD.heap.size, 0, none⟩ (.int .i64 r.code)).setCell ⟨wD.heap.size, 1, none⟩ (.bool r.dz)).setCell ⟨wD.heap.size, 2, none⟩ (.int .i64 r.place)).setCell ⟨wD.heap.size, 3, none⟩ (.slice a3 r.writes.length d3)).heap.size := (gh (s := wD.heap.size) (vs := [.int .i64 r.code, .bool r.dz, .int .i64 r.place, .slice a3 r.writes.length d3]) OW hzD).mono (by have := hBD.size; omega) (Nat.le_of_eq hzF.symm)
  have hBF : Below w.heap.size w ((((w3.setCell ⟨wD.heap.size, 0, none⟩ (.int .i64 r.code)).setCell ⟨wD.heap.size, 1, none⟩ (.bool r.dz)).setCell ⟨wD.heap.size, 2, none⟩ (.int .i64 r.place)).setCell ⟨wD.heap.size, 3, none⟩ (.slice a3 r.writes.length d3)) := aE hBw wD.heap.size 0 [.int .i64 r.code, .bool r.dz, .int .i64 r.place, .slice a3 r.writes.length d3] hBD.size
  clear hzD hzF hO3 hO4 z0 z1 z2 z3 ff l0
  clear zq OW hBw hb3 hW
  have hHF := h.aj hBF
  have ez := oO.reads.ez
  generalize hWF : ((((w3.setCell ⟨wD.heap.size, 0, none⟩ (.int .i64 r.code)).setCell ⟨wD.heap.size, 1, none⟩ (.bool r.dz)).setCell ⟨wD.heap.size, 2, none⟩ (.int .i64 r.place)).setCell ⟨wD.heap.size, 3, none⟩ (.slice a3 r.writes.length d3)) = WF at *
  clear hWF
  generalize hob : wD.heap.size = ob at *
  clear hob
  clear k0
  have k0 := ag.at hHF 0 _ rfl
  simp only [List.getElem_toArray, List.getElem_cons_zero] at k0
  have kf := ag.soft hHF
  have kl := ag.lt hHF
  have z0 := ag.at bO 0 _ rfl
  have z2 := ag.at bO 2 _ rfl
  have z3 := ag.at bO 3 _ rfl
  simp only [ga, gb, gc] at z0 z2 z3
  have zl := ag.lt bO
  have HOF := yh oO
  have HBF := yh hBF
  have HHF := yh hHF
  clear oO hBF hHF bO hBD hHD q0 q1 q2 q3 q4 hyl hgl h R hy hE hH0
  by_cases hc : r.code = 0
  ·
   rw [hc] at z0
   by_cases h40 : 40 < r.writes.length
   ·
    have HT : Hid (aV r = 2) := by show aV r = 2; rw [aV, if_pos hc, if_pos h40]
    have hd : decide ((40 : Int) < (r.writes.length : Int)) = true := by simp; omega
    clear hc h40
    go_wp2_with fail
    refine bodyPost_ret (v := .tuple #[.int .i64 0, .int .i64 2]) (by simp [results, Tryz.results160, go_sem]) rfl ?_
    refine ⟨0, by rw [uh HT], fun h0 => ?_, ak (uh HBF) _⟩
    rw [uh HT] at h0
    exact absurd h0 (by decide)
   have HT : Hid (aV r = 0) := by show aV r = 0; rw [aV, if_pos hc, if_neg h40]
   have hd : decide ((40 : Int) < (r.writes.length : Int)) = false := by simp; omega
   have HBX : Hid (dG (WF.setCell ⟨g, 0, none⟩ (.slice a3 r.writes.length d3)) g (.slice a3 r.writes.length d3) x) := ag.set (uh HHF) 0 (.slice a3 r.writes.length d3)
   have e1 : Ext (fun q => q = g) WF (WF.setCell ⟨g, 0, none⟩ (.slice a3 r.writes.length d3)) := (Ext.refl (fun q => q = g) _).setCell ⟨g, 0, none⟩ _ rfl
   have HE1 := yh ((ak (uh HBF) _).trans e1)
   have HO1 : Hid ((ab.sl ab.ai).aL (WF.setCell ⟨g, 0, none⟩ (.slice a3 r.writes.length d3)) [.slice a3 r.writes.length d3] r.writes w.heap.size (WF.setCell ⟨g, 0, none⟩ (.slice a3 r.writes.length d3)).heap.size) := ((uh HOF).ext e1 (fun q h1 h2 h3 => by omega)).mono (Nat.le_refl _) (by simp)
   have hgo : g ≠ ob := hGO
   clear hc e1 h40
   go_wp2_with fail
   refine bodyPost_ret (v := .tuple #[.int .i64 r.place, .int .i64 0]) (by simp [results, Tryz.results160, go_sem]) rfl ?_
   exact ⟨r.place, by rw [uh HT], fun _ => ⟨rfl, a3, r.writes.length, d3, uh HBX, uh HO1⟩, uh HE1⟩
  have HT : Hid (aV r = r.code) := by show aV r = r.code; rw [aV, if_neg hc]
  have HC := yh hc
  have hd : (r.code != 0) = true := by simpa using hc
  clear hc
  generalize r.code = cc at *
  go_wp2_with fail
  refine wZz (fun w' => w' = WF.drew) rfl (fun zq => ?_)
  refine tkH 0 zq ?_
  refine tkJ 1 (v := ?vv1) ?hv1 zq ?rv1
  case hv1 =>
   intro wS hSw
   have v0 : wS.cell? ⟨ob, 0, none⟩ = some (.int .i64 cc) := by rw [hSw]; exact z0
   clear hSw
   exact fZ
  refine tkH 2 zq ?_
  refine tkH 3 zq ?_
  refine dZ ?_
  clear zq
  go_wp2_with fail
  refine bodyPost_ret (v := .tuple #[.int .i64 0, .int .i64 cc]) (by simp [results, Tryz.results160, go_sem]) rfl ?_
  refine ⟨0, by rw [uh HT], fun h0 => ?_, ak (uh HBF).drew _⟩
  rw [uh HT] at h0
  exact absurd h0 (uh HC)
theorem ln (cs : List Value) (x : aS) (us : List Value) (y : au) (w : World) (hE : iK w) (h : ab.aA.Reads w cs x) (hy : ab.ai.Reads w us y) :
  Calls Tryz.prog 105 #[.agg cs.toArray, .agg us.toArray] w fun e w' => ∃ cs, e = .returned (.agg cs.toArray) ∧ ab.da.aL w' cs (fg x y) w.heap.size w'.heap.size ∧ Below w.heap.size w w' := by
 have hN := h
 have hV := hy
 obtain ⟨a4, d4, rfl, R4⟩ := bt h
 obtain ⟨a2, d2, rfl, R2⟩ := bg hy
 clear h hy
 have nb : Below w.heap.size w (((w.alloc (.cells #[.int .i64 x.id, .bool x.up, .int .i64 x.ae, .int .i64 x.ar, .slice a4 x.writes.length d4, .int .i64 x.sure, .int .i64 x.clean] 63)).alloc (.cells #[.int .i64 y.kind, .int .i64 y.id, .slice a2 y.vec.length d2, .int .i64 y.aa, .int .i64 y.seq] 44)).alloc (.cells #[.int .i64 0, .int .i64 0, .int .i64 0, .bool false, .int .i64 0, .int .i64 0, .slice none 0 0, .int .i64 0, .int .i64 0] 167)) := (((Below.refl _ _).alloc (Nat.le_refl _) _).alloc (by simp) _).alloc (by simp; omega) _
 have bX : ag 0 #[.int .i64 x.id, .bool x.up, .int .i64 x.ae, .int .i64 x.ar, .slice a4 x.writes.length d4, .int .i64 x.sure, .int .i64 x.clean] 63 (((w.alloc (.cells #[.int .i64 x.id, .bool x.up, .int .i64 x.ae, .int .i64 x.ar, .slice a4 x.writes.length d4, .int .i64 x.sure, .int .i64 x.clean] 63)).alloc (.cells #[.int .i64 y.kind, .int .i64 y.id, .slice a2 y.vec.length d2, .int .i64 y.aa, .int .i64 y.seq] 44)).alloc (.cells #[.int .i64 0, .int .i64 0, .int .i64 0, .bool false, .int .i64 0, .int .i64 0, .slice none 0 0, .int .i64 0, .int .i64 0] 167)) w.heap.size := ((aC (Nat.zero_le _)).grow _).grow _
 have bY : ag 0 #[.int .i64 y.kind, .int .i64 y.id, .slice a2 y.vec.length d2, .int .i64 y.aa, .int .i64 y.seq] 44 (((w.alloc (.cells #[.int .i64 x.id, .bool x.up, .int .i64 x.ae, .int .i64 x.ar, .slice a4 x.writes.length d4, .int .i64 x.sure, .int .i64 x.clean] 63)).alloc (.cells #[.int .i64 y.kind, .int .i64 y.id, .slice a2 y.vec.length d2, .int .i64 y.aa, .int .i64 y.seq] 44)).alloc (.cells #[.int .i64 0, .int .i64 0, .int .i64 0, .bool false, .int .i64 0, .int .i64 0, .slice none 0 0, .int .i64 0, .int .i64 0] 167)) (w.heap.size + 1) := (bb (Nat.zero_le _) (by simp)).grow _
 have bR : ag 0 #[.int .i64 0, .int .i64 0, .int .i64 0, .bool false, .int .i64 0, .int .i64 0, .slice none 0 0, .int .i64 0, .int .i64 0] 167 (((w.alloc (.cells #[.int .i64 x.id, .bool x.up, .int .i64 x.ae, .int .i64 x.ar, .slice a4 x.writes.length d4, .int .i64 x.sure, .int .i64 x.clean] 63)).alloc (.cells #[.int .i64 y.kind, .int .i64 y.id, .slice a2 y.vec.length d2, .int .i64 y.aa, .int .i64 y.seq] 44)).alloc (.cells #[.int .i64 0, .int .i64 0, .int .i64 0, .bool false, .int .i64 0, .int .i64 0, .slice none 0 0, .int .i64 0, .int .i64 0] 167)) (w.heap.size + 2) := bb (Nat.zero_le _) (by simp)
 by_cases hf : cH x = 0
 ·
  have hok := (gx hf).1
  have HL := yh (mG _ x _ (hN.later nb) hf)
  have HA := yh hf
  have HOK := yh hok
  have HB0 := yh nb
  have HR0 := yh bR
  have HY0 := yh bY
  have HV := yh hV
  have HE := yh hE
  clear hN nb bR bY bX R4 R2 hf hok hV hE
  go_enter Tryz.func105, Tryz.ntmps105
  go_wp2_with fail
  generalize ((w.alloc (.cells #[.int .i64 x.id, .bool x.up, .int .i64 x.ae, .int .i64 x.ar, .slice a4 x.writes.length d4, .int .i64 x.sure, .int .i64 x.clean] 63)).alloc (.cells #[.int .i64 y.kind, .int .i64 y.id, .slice a2 y.vec.length d2, .int .i64 y.aa, .int .i64 y.seq] 44)).alloc (.cells #[.int .i64 0, .int .i64 0, .int .i64 0, .bool false, .int .i64 0, .int .i64 0, .slice none 0 0, .int .i64 0, .int .i64 0] 167) = W0 at *
  refine (uh HL).mono ?_
  rintro e w1 ⟨g, gw, rfl, hH, O, hg, hb⟩
  have hgr : w.heap.size + 2 < g := by have := (uh HR0).lt; omega
  have hBD : Below w.heap.size w w1.drew := ((uh HB0).trans (hb.mono (uh HB0).size)).drew
  have hHD : dG w1.drew g (.slice (some ⟨gw, 0, none⟩) x.writes.length x.writes.length) x := hH
  have hOD : (ab.sl ab.ai).aL w1.drew [.slice (some ⟨gw, 0, none⟩) x.writes.length x.writes.length] x.writes (g + 1) w1.heap.size := O.later (Below.refl _ _).drew
  have hRD : ag 0 #[.int .i64 0, .int .i64 0, .int .i64 0, .bool false, .int .i64 0, .int .i64 0, .slice none 0 0, .int .i64 0, .int .i64 0] 167 w1.drew (w.heap.size + 2) := ((uh HR0).aj hb).drew
  have bY1 := (uh HY0).aj hb
  have q0 := ag.at bY1 0 _ rfl
  have q1 := ag.at bY1 1 _ rfl
  have q2 := ag.at bY1 2 _ rfl
  have q3 := ag.at bY1 3 _ rfl
  have q4 := ag.at bY1 4 _ rfl
  simp only [ga, gb, gc] at q0 q1 q2 q3 q4
  have hyl := bY1.lt
  have hE := uh HE
  have hV := uh HV
  clear hb HL HB0 HR0 HY0 hH O hg bY1 HE HV
  go_wp2_with fail
  refine wZz (fun w' => Ext (fun q => q = g) w1 w') ((Ext.refl _ _).drew 1) (fun zq => ?_)
  generalize w1.drew = wD at zq hBD hHD hOD hRD ⊢
  refine tkH 0 zq ?_
  refine tkH 1 zq ?_
  refine tkH 2 zq ?_
  refine tkJ 3 (v := ?vw3) ?hw3 zq ?rw3
  case hw3 =>
   intro wS hSw
   have v0 : wS.cell? ⟨w.heap.size + 1, 0, none⟩ = some (.int .i64 y.kind) := (cell_of_heap (hSw.block (w.heap.size + 1) hyl (by omega)) 0).trans q0
   have v1 : wS.cell? ⟨w.heap.size + 1, 1, none⟩ = some (.int .i64 y.id) := (cell_of_heap (hSw.block (w.heap.size + 1) hyl (by omega)) 1).trans q1
   have v2 : wS.cell? ⟨w.heap.size + 1, 2, none⟩ = some (.slice a2 y.vec.length d2) := (cell_of_heap (hSw.block (w.heap.size + 1) hyl (by omega)) 2).trans q2
   have v3 : wS.cell? ⟨w.heap.size + 1, 3, none⟩ = some (.int .i64 y.aa) := (cell_of_heap (hSw.block (w.heap.size + 1) hyl (by omega)) 3).trans q3
   have v4 : wS.cell? ⟨w.heap.size + 1, 4, none⟩ = some (.int .i64 y.seq) := (cell_of_heap (hSw.block (w.heap.size + 1) hyl (by omega)) 4).trans q4
   clear hSw
   exact fZ
  refine rdH 4 (fun K hK => ?_)
  go_simp
  go_at_call 160
  refine (wV g gw x _ y _ (hE.later hBD) hHD hOD.reads (hV.later hBD)).mono ?_
  rintro e w3 ⟨at', rfl, hq, hE3⟩
  have hz3 := hE3.size
  try go_wp2_with fail
  refine hK.out _ _ (zq.trans hE3) (fun zq => ?_)
  clear hK K
  try simp only [Act.put, pz, py, px]
  refine tkH 5 zq ?_
  refine tkH 6 zq ?_
  refine tkH 7 zq ?_
  refine tkH 8 zq ?_
  refine tkH 9 zq ?_
  refine dZ ?_
  clear zq
  have hgl : g < wD.heap.size := hHD.lt
  have hR3 := ag.ext hRD hE3 (by omega)
  have hB3 := hBD.trans (hE3.below hBD.size (fun q hq e => by omega))
  have HR3 := yh hR3
  have HB3 := yh hB3
  clear hR3 hB3 hBD hHD hOD hRD hE3 hE hV q0 q1 q2 q3 q4 hyl
  have HAB := yh (qU (y := y) (uh HOK).aM)
  have HTB := yh (oI (y := y) (uh HOK).aM)
  by_cases hc : aV (ca x.writes y) = 0
  ·
   obtain ⟨rfl, a, n, c, hH3, O3⟩ := hq hc
   have HY := yh (tU (uh HA) hc)
   rw [hc]
   have HO3 := yh O3
   have HT := yh (vA g a n c x w3 hH3)
   clear hq hc hH3 O3
   go_wp2_with fail
   refine (uh HT).mono ?_
   rintro e w9 ⟨rfl, hb9⟩
   have bR9 := (uh HR3).aj hb9
   have z0 := ag.at bR9 0 _ rfl
   have z1 := ag.at bR9 1 _ rfl
   have z2 := ag.at bR9 2 _ rfl
   have z3 := ag.at bR9 3 _ rfl
   have z4 := ag.at bR9 4 _ rfl
   have z5 := ag.at bR9 5 _ rfl
   have z6 := ag.at bR9 6 _ rfl
   have z7 := ag.at bR9 7 _ rfl
   have z8 := ag.at bR9 8 _ rfl
   simp only [ga, gb, gc] at z0 z1 z2 z3 z4 z5 z6 z7 z8
   have ff := ag.soft bR9
   have l0 := ag.lt bR9
   have HO9 := yh ((uh HO3).later hb9)
   have HB9 := yh ((uh HB3).trans (hb9.mono (uh HB3).size))
   have hz9 := hb9.size
   clear hb9 HT bR9 HO3 HR3 HB3
   go_wp2_with fail
   refine bodyPost_ret (v := .agg #[.int .i64 0, .int .i64 (ca x.writes y).place, .int .i64 x.id, .bool x.up, .int .i64 x.ae, .int .i64 x.ar, .slice a n c, .int .i64 x.sure, .int .i64 x.clean]) (by simp [results, Tryz.results105, go_sem, z0, z1, z2, z3, z4, z5, z6, z7, z8]) rfl ?_
   rw [uh HY]
   have hB9 := aE (uh HB9) (w.heap.size + 2) 0 [.int .i64 0, .int .i64 (ca x.writes y).place, .int .i64 x.id, .bool x.up, .int .i64 x.ae, .int .i64 x.ar, .slice a n c, .int .i64 x.sure, .int .i64 x.clean] (by omega)
   refine ⟨[.int .i64 0, .int .i64 (ca x.writes y).place, .int .i64 x.id, .bool x.up, .int .i64 x.ae, .int .i64 x.ar, .slice a n c, .int .i64 x.sure, .int .i64 x.clean], rfl, ?_, hB9⟩
   have o1 := gh (s := w.heap.size + 2) (vs := [.int .i64 0, .int .i64 (ca x.writes y).place, .int .i64 x.id, .bool x.up, .int .i64 x.ae, .int .i64 x.ar, .slice a n c, .int .i64 x.sure, .int .i64 x.clean]) (uh HO9) (by omega)
   obtain ⟨i1, i2, i3, i4, -, -, i7, i8, -⟩ := uh HOK
   have hpl := (uh HAB).2
   exact ji (x := cM x (ca x.writes y).writes) (c := 0) (n := (ca x.writes y).place) (by omega) (by omega) (o1.mono (by omega) (Nat.le_trans hz9 (Nat.le_of_eq (bJ w9 (w.heap.size + 2) 0 [.int .i64 0, .int .i64 (ca x.writes y).place, .int .i64 x.id, .bool x.up, .int .i64 x.ae, .int .i64 x.ar, .slice a n c, .int .i64 x.sure, .int .i64 x.clean]).symm))) (by simp only [cM]; omega) (by simp only [cM]; omega) (by simp only [cM]; omega) (by simp only [cM]; omega) (by simp only [cM]; omega)
  have HY := yh (qi (uh HA) hc)
  have hd : (aV (ca x.writes y) != 0) = true := by simpa using hc
  clear hq hc
  generalize aV (ca x.writes y) = tc at *
  have bR9 := (uh HR3)
  have z0 := ag.at bR9 0 _ rfl
  have z1 := ag.at bR9 1 _ rfl
  have z2 := ag.at bR9 2 _ rfl
  have z3 := ag.at bR9 3 _ rfl
  have z4 := ag.at bR9 4 _ rfl
  have z5 := ag.at bR9 5 _ rfl
  have z6 := ag.at bR9 6 _ rfl
  have z7 := ag.at bR9 7 _ rfl
  have z8 := ag.at bR9 8 _ rfl
  simp only [ga, gb, gc] at z0 z1 z2 z3 z4 z5 z6 z7 z8
  have ff := ag.soft bR9
  have l0 := ag.lt bR9
  clear bR9
  go_wp2_with fail
  refine bodyPost_ret (v := .agg #[.int .i64 tc, .int .i64 0, .int .i64 0, .bool false, .int .i64 0, .int .i64 0, .slice none 0 0, .int .i64 0, .int .i64 0]) (by simp [results, Tryz.results105, go_sem, z0, z1, z2, z3, z4, z5, z6, z7, z8]) rfl ?_
  rw [uh HY]
  have hB9 := aE (uh HB3) (w.heap.size + 2) 0 [.int .i64 tc, .int .i64 0, .int .i64 0, .bool false, .int .i64 0, .int .i64 0, .slice none 0 0, .int .i64 0, .int .i64 0] (by omega)
  exact ⟨[.int .i64 tc, .int .i64 0, .int .i64 0, .bool false, .int .i64 0, .int .i64 0, .slice none 0 0, .int .i64 0, .int .i64 0], rfl, fz (by have := uh HTB; omega), hB9⟩
 have HL := yh (ki _ x _ (hN.later nb) hf)
 have hd : (cH x != 0) = true := by simpa using hf
 have HY := yh (sj (y := y) hf)
 have HW := yh (mg x)
 have HB0 := yh nb
 have HR0 := yh bR
 clear hN nb bR bX bY R4 R2 hf hV hE
 generalize cH x = ac at *
 go_enter Tryz.func105, Tryz.ntmps105
 go_wp2_with fail
 generalize ((w.alloc (.cells #[.int .i64 x.id, .bool x.up, .int .i64 x.ae, .int .i64 x.ar, .slice a4 x.writes.length d4, .int .i64 x.sure, .int .i64 x.clean] 63)).alloc (.cells #[.int .i64 y.kind, .int .i64 y.id, .slice a2 y.vec.length d2, .int .i64 y.aa, .int .i64 y.seq] 44)).alloc (.cells #[.int .i64 0, .int .i64 0, .int .i64 0, .bool false, .int .i64 0, .int .i64 0, .slice none 0 0, .int .i64 0, .int .i64 0] 167) = W0 at *
 refine (uh HL).mono ?_
 rintro e w1 ⟨rfl, hb⟩
 have HB1 := yh ((uh HB0).trans (hb.mono (uh HB0).size))
 have HR1 := yh ((uh HR0).aj hb)
 clear hb HL HB0 HR0
 have bR9 := (uh HR1)
 have z0 := ag.at bR9 0 _ rfl
 have z1 := ag.at bR9 1 _ rfl
 have z2 := ag.at bR9 2 _ rfl
 have z3 := ag.at bR9 3 _ rfl
 have z4 := ag.at bR9 4 _ rfl
 have z5 := ag.at bR9 5 _ rfl
 have z6 := ag.at bR9 6 _ rfl
 have z7 := ag.at bR9 7 _ rfl
 have z8 := ag.at bR9 8 _ rfl
 simp only [ga, gb, gc] at z0 z1 z2 z3 z4 z5 z6 z7 z8
 have ff := ag.soft bR9
 have l0 := ag.lt bR9
 clear bR9
 go_wp2_with fail
 refine bodyPost_ret (v := .agg #[.int .i64 ac, .int .i64 0, .int .i64 0, .bool false, .int .i64 0, .int .i64 0, .slice none 0 0, .int .i64 0, .int .i64 0]) (by simp [results, Tryz.results105, go_sem, z0, z1, z2, z3, z4, z5, z6, z7, z8]) rfl ?_
 rw [uh HY]
 have hB9 := aE (uh HB1) (w.heap.size + 2) 0 [.int .i64 ac, .int .i64 0, .int .i64 0, .bool false, .int .i64 0, .int .i64 0, .slice none 0 0, .int .i64 0, .int .i64 0] (by omega)
 exact ⟨[.int .i64 ac, .int .i64 0, .int .i64 0, .bool false, .int .i64 0, .int .i64 0, .slice none 0 0, .int .i64 0, .int .i64 0], rfl, fz (uh HW), hB9⟩
theorem rU {w : World} {m : bu} {av : Option Addr} {dv : Nat} (h : ab.aP.Reads w [.int .i64 m.kind, .int .i64 m.ae, .int .i64 m.src, .int .i64 m.dst, .int .i64 m.index, .int .i64 m.write.kind, .int .i64 m.write.id, .slice av m.write.vec.length dv, .int .i64 m.write.aa, .int .i64 m.write.seq] m) : ab.ai.Reads w [.int .i64 m.write.kind, .int .i64 m.write.id, .slice av m.write.vec.length dv, .int .i64 m.write.aa, .int .i64 m.write.seq] m.write := by
 obtain ⟨bl, hl⟩ := h
 obtain ⟨a', d', bv, eq, rfl, -, -, -, -, -, k5, k6, lv, k8, k9⟩ := dT.1 hl
 simp only [List.cons.injEq, Value.slice.injEq, and_true, true_and] at eq
 obtain ⟨rfl, rfl⟩ := eq
 exact ⟨_, cB.2 ⟨av, dv, _, rfl, rfl, k5, k6, lv, k8, k9⟩⟩
theorem tE (n : aS) (v : au) : (takeN n v).2.id = n.id := by
 unfold takeN
 split
 ·
  split <;> rfl
 rfl
def dB (g lo : Nat) (bo : Bool) (z : ay) (W : World) (e : Ending) (W' : World) : Prop :=
 e = .returned (.bool bo) ∧ (∃ (u3 u4 u5 u6 : Value), ag 0 #[.int .i64 z.now, .int .i64 z.events, .int .i64 z.chain.ae, u3, u4, u5, u6] 39 W' g ∧ fu W' lo g [.int .i64 z.now, .int .i64 z.events, .int .i64 z.chain.ae, u3, u4, u5, u6] z) ∧ Ext (fun q => lo ≤ q ∧ q ≠ g) W W'
theorem wJ (g lo : Nat) (v3 v4 v5 v6 : Value) (y : ay) (m : bu) (ms : List Value) (W : World) (hg : ag 0 #[.int .i64 y.now, .int .i64 y.events, .int .i64 y.chain.ae, v3, v4, v5, v6] 39 W g) (_ : lo ≤ g) (hO : fu W lo g [.int .i64 y.now, .int .i64 y.events, .int .i64 y.chain.ae, v3, v4, v5, v6] y) (hm : ab.aP.Reads W ms m) (hE : iK W) (hi : ∀ z ∈ y.chain.ids, ch y z = true) (hn5 : y.nodes.length ≤ 5) (hcf : aB y.chain = 0) (hnd : ∀ i (h : i < y.nodes.length), aG y.nodes[i] = 0 ∧ y.nodes[i].id = (i : Int) + 1) (hmf : aJ m = 0) :
  Calls Tryz.prog 121 #[.pointer (some ⟨g, 0, none⟩), .agg ms.toArray] W fun e W' => dB g lo (eP y m) (ec y m) W e W' := by
 obtain ⟨av, dv, rfl, -⟩ := cE hm
 obtain ⟨a3, d3, a4, d4, _, _, _, _, hq, RC, -, -, -⟩ := aN hO.reads
 simp only [List.cons.injEq, and_true, true_and] at hq
 obtain ⟨rfl, rfl, -, -⟩ := hq
 have nb : Below W.heap.size W (W.alloc (.cells #[.int .i64 m.kind, .int .i64 m.ae, .int .i64 m.src, .int .i64 m.dst, .int .i64 m.index, .int .i64 m.write.kind, .int .i64 m.write.id, .slice av m.write.vec.length dv, .int .i64 m.write.aa, .int .i64 m.write.seq] 60)) := (Below.refl _ _).alloc (Nat.le_refl _) _
 have HMB : Hid (ag 0 #[.int .i64 m.kind, .int .i64 m.ae, .int .i64 m.src, .int .i64 m.dst, .int .i64 m.index, .int .i64 m.write.kind, .int .i64 m.write.id, .slice av m.write.vec.length dv, .int .i64 m.write.aa, .int .i64 m.write.seq] 60 (W.alloc (.cells #[.int .i64 m.kind, .int .i64 m.ae, .int .i64 m.src, .int .i64 m.dst, .int .i64 m.index, .int .i64 m.write.kind, .int .i64 m.write.id, .slice av m.write.vec.length dv, .int .i64 m.write.aa, .int .i64 m.write.seq] 60)) W.heap.size) := aC (Nat.zero_le _)
 have HMR := yh (hm.later nb)
 have HG := yh (hg.aj nb)
 have HO := yh (hO.later nb)
 have HRD := yh (hO.reads.later nb)
 have HRC := yh (RC.later nb)
 have HE := yh (hE.later nb)
 have HX : Hid (Ext (fun q => lo ≤ q ∧ q ≠ g) W (W.alloc (.cells #[.int .i64 m.kind, .int .i64 m.ae, .int .i64 m.src, .int .i64 m.dst, .int .i64 m.index, .int .i64 m.write.kind, .int .i64 m.write.id, .slice av m.write.vec.length dv, .int .i64 m.write.aa, .int .i64 m.write.seq] 60))) := yh (ak nb _)
 have HI := yh hi
 have HCF := yh hcf
 have HNF := yh hnd
 have HMF := yh hmf
 clear nb hm hg hO RC hE hi hcf hnd hmf
 go_enter Tryz.func121, Tryz.ntmps121
 go_upto_region 1 with fail
 generalize W.alloc (.cells #[.int .i64 m.kind, .int .i64 m.ae, .int .i64 m.src, .int .i64 m.dst, .int .i64 m.index, .int .i64 m.write.kind, .int .i64 m.write.id, .slice av m.write.vec.length dv, .int .i64 m.write.aa, .int .i64 m.write.seq] 60) = W1 at *
 cases hmb : cF y m.dst
 ·
  have HNO := yh (mq (m := m) hmb)
  refine wZz (fun w' => Below W1.heap.size W1 w') ((Below.refl _ _).drew) (fun zq => ?_)
  generalize W1.drew = wD at zq ⊢
  refine tkH 0 zq ?_
  refine tkH 1 zq ?_
  refine tkJ 2 (v := ?va2) ?ha2 zq ?ra2
  case ha2 =>
   intro wS hSw
   have bG := (uh HG).aj hSw
   have p0 := ag.at bG 0 _ rfl
   have p1 := ag.at bG 1 _ rfl
   have p2 := ag.at bG 2 _ rfl
   have p3 := ag.at bG 3 _ rfl
   have p4 := ag.at bG 4 _ rfl
   have p5 := ag.at bG 5 _ rfl
   have p6 := ag.at bG 6 _ rfl
   simp only [ga, gb, gc] at p0 p1 p2 p3 p4 p5 p6
   clear bG hSw
   exact fZ
  refine tkH 3 zq ?_
  refine tkJ 4 (v := ?va4) ?ha4 zq ?ra4
  case ha4 =>
   intro wS hSw
   have bM := (uh HMB).aj hSw
   have q3 := ag.at bM 3 _ rfl
   simp only [ga, gb, gc] at q3
   clear bM hSw
   exact fZ
  refine rdH 5 (fun K hK => ?_)
  go_simp
  go_at_call 103
  refine (jb _ y m.dst _ ((uh HRD).later zq) (uh HI) hn5).mono ?_
  rintro e u1 ⟨rfl, hbu⟩
  rw [iq, hmb]
  try go_wp2_with fail
  refine hK.out _ _ (zq.trans (hbu.mono zq.size)) (fun zq => ?_)
  clear hK K
  try simp only [Act.put, pz, py, px]
  refine tkH 6 zq ?_
  refine tkH 7 zq ?_
  refine skH 8 zq ?_
  refine skH 9 zq ?_
  refine skH 10 zq ?_
  refine skH 11 zq ?_
  refine skH 12 zq ?_
  refine skH 13 zq ?_
  refine skH 14 zq ?_
  refine skH 15 zq ?_
  refine tkH 16 zq ?_
  refine dZ ?_
  replace HG := yh ((uh HG).aj zq)
  replace HO := yh ((uh HO).later zq)
  replace HX := yh ((uh HX).trans (ak zq _))
  replace HMB := yh ((uh HMB).aj zq)
  replace HRD := yh ((uh HRD).later zq)
  replace HRC := yh ((uh HRC).later zq)
  replace HMR := yh ((uh HMR).later zq)
  replace HE := yh ((uh HE).later zq)
  clear zq HMB HRD HRC HMR hbu
  go_wp2_with fail
  go_ret
  unfold dB
  exact ⟨by rw [(ba (uh HNO)).1]; rfl, by rw [(ba (uh HNO)).2]; exact ⟨_, _, _, _, uh HG, uh HO⟩, uh HX⟩
 by_cases hep : m.ae = y.chain.ae
 ·
  have hde : (m.ae != y.chain.ae) = false := by simpa using hep
  have HMM := yh hmb
  have HEP := yh hep
  clear hep
  refine wZz (fun w' => Below W1.heap.size W1 w') ((Below.refl _ _).drew) (fun zq => ?_)
  generalize W1.drew = wD at zq ⊢
  refine tkH 0 zq ?_
  refine tkH 1 zq ?_
  refine tkJ 2 (v := ?vb2) ?hb2 zq ?rb2
  case hb2 =>
   intro wS hSw
   have bG := (uh HG).aj hSw
   have p0 := ag.at bG 0 _ rfl
   have p1 := ag.at bG 1 _ rfl
   have p2 := ag.at bG 2 _ rfl
   have p3 := ag.at bG 3 _ rfl
   have p4 := ag.at bG 4 _ rfl
   have p5 := ag.at bG 5 _ rfl
   have p6 := ag.at bG 6 _ rfl
   simp only [ga, gb, gc] at p0 p1 p2 p3 p4 p5 p6
   clear bG hSw
   exact fZ
  refine tkH 3 zq ?_
  refine tkJ 4 (v := ?vb4) ?hb4 zq ?rb4
  case hb4 =>
   intro wS hSw
   have bM := (uh HMB).aj hSw
   have q3 := ag.at bM 3 _ rfl
   simp only [ga, gb, gc] at q3
   clear bM hSw
   exact fZ
  refine rdH 5 (fun K hK => ?_)
  go_simp
  go_at_call 103
  refine (jb _ y m.dst _ ((uh HRD).later zq) (uh HI) hn5).mono ?_
  rintro e u1 ⟨rfl, hbu⟩
  rw [iq, hmb]
  try go_wp2_with fail
  refine hK.out _ _ (zq.trans (hbu.mono zq.size)) (fun zq => ?_)
  clear hK K
  try simp only [Act.put, pz, py, px]
  refine tkH 6 zq ?_
  refine tkH 7 zq ?_
  refine tkH 8 zq ?_
  refine tkJ 9 (v := ?vb9) ?hb9 zq ?rb9
  case hb9 =>
   intro wS hSw
   have bM := (uh HMB).aj hSw
   have q1 := ag.at bM 1 _ rfl
   simp only [ga, gb, gc] at q1
   clear bM hSw
   exact fZ
  refine tkH 10 zq ?_
  refine tkH 11 zq ?_
  refine tkH 12 zq ?_
  refine tkH 13 zq ?_
  refine tkJ 14 (v := ?vb14) ?hb14 zq ?rb14
  case hb14 =>
   intro wS hSw
   have bG := (uh HG).aj hSw
   have p2 := ag.at bG 2 _ rfl
   simp only [ga, gb, gc] at p2
   clear bG hSw
   exact fZ
  refine tkH 15 zq ?_
  refine tkH 16 zq ?_
  refine dZ ?_
  replace HG := yh ((uh HG).aj zq)
  replace HO := yh ((uh HO).later zq)
  replace HX := yh ((uh HX).trans (ak zq _))
  replace HMB := yh ((uh HMB).aj zq)
  replace HRD := yh ((uh HRD).later zq)
  replace HRC := yh ((uh HRC).later zq)
  replace HMR := yh ((uh HMR).later zq)
  replace HE := yh ((uh HE).later zq)
  clear zq hbu hmb
  obtain ⟨k, hk, hdst⟩ := gY (jL (uh HI) (uh HMM))
  have HDST := yh hdst
  clear hdst
  have hw1 : IntKind.i64.wrap (m.dst - 1) = (k : Int) := by
   have := uh HDST
   rw [IntKind.wrap_i64]
   omega
  have hki : (k : Int) < (y.nodes.length : Int) := by omega
  have hki0 : (0 : Int) ≤ (k : Int) := by omega
  obtain ⟨_, _, _, _, _, _, _, _, hq, -, RN, -, -⟩ := aN (uh HRD)
  simp only [List.cons.injEq, Value.slice.injEq, and_true, true_and] at hq
  obtain ⟨-, ⟨rfl, rfl⟩, -, -⟩ := hq
  obtain ⟨b, off, rfl, -⟩ := ab.aR RN (by omega)
  obtain ⟨row, hcl, hr⟩ := ab.bF RN hk
  have hr0 := hr
  obtain ⟨an, dn, rfl, -⟩ := bt hr
  have c0 : u1.cell? ⟨b, off + k * 7, none⟩ = some (.int .i64 y.nodes[k].id) := hcl 0 (by decide)
  have c1 : u1.cell? ⟨b, off + k * 7 + 1, none⟩ = some (.bool y.nodes[k].up) := hcl 1 (by decide)
  have c2 : u1.cell? ⟨b, off + k * 7 + 2, none⟩ = some (.int .i64 y.nodes[k].ae) := hcl 2 (by decide)
  have c3 : u1.cell? ⟨b, off + k * 7 + 3, none⟩ = some (.int .i64 y.nodes[k].ar) := hcl 3 (by decide)
  have c4 : u1.cell? ⟨b, off + k * 7 + 4, none⟩ = some (.slice an y.nodes[k].writes.length dn) := hcl 4 (by decide)
  have c5 : u1.cell? ⟨b, off + k * 7 + 5, none⟩ = some (.int .i64 y.nodes[k].sure) := hcl 5 (by decide)
  have c6 : u1.cell? ⟨b, off + k * 7 + 6, none⟩ = some (.int .i64 y.nodes[k].clean) := hcl 6 (by decide)
  have HND := yh hr0
  have hno := uh HNF k hk
  have HWL : Hid (y.nodes[k].writes.length ≤ 1000) := by
   have := (cq hno.1).len
   show y.nodes[k].writes.length ≤ 1000
   omega
  have HUP : Hid (y.nodes[k].up = true) := by
   have := pK (uh HMM)
   rw [uh HDST, eY hk] at this
   exact this
  have HNO1 : Hid (cm y m.dst = y.nodes[k]) := by
   show cm y m.dst = _
   rw [uh HDST, eY hk]
  have HMP := yh (jc (uh HMF))
  clear RN hcl hr hr0 hno
  go_upto_region 3 with fail
  clear hde
  refine wZz (fun w' => Below u1.heap.size u1 w') ((Below.refl _ _).drew) (fun zq => ?_)
  generalize u1.drew = wD at zq ⊢
  refine tkH 0 zq ?_
  refine tkH 1 zq ?_
  refine tkH 2 zq ?_
  refine tkJ 3 (v := ?vn3) ?hn3 zq ?rn3
  case hn3 =>
   intro wS hSw
   have bG := (uh HG).aj hSw
   have p4 := ag.at bG 4 _ rfl
   simp only [ga, gb, gc] at p4
   clear bG hSw
   exact fZ
  refine tkH 4 zq ?_
  refine tkJ 5 (v := ?vn5) ?hn5 zq ?rn5
  case hn5 =>
   intro wS hSw
   have bM := (uh HMB).aj hSw
   have q3 := ag.at bM 3 _ rfl
   simp only [ga, gb, gc] at q3
   clear bM hSw
   exact fZ
  refine tkH 6 zq ?_
  refine tkH 7 zq ?_
  refine tkJ 8 (v := ?vn8) ?hn8 zq ?rn8
  case hn8 =>
   intro wS hSw
   have q0 : wS.cell? ⟨b, off + k * 7, none⟩ = some (.int .i64 y.nodes[k].id) := eD (hSw.mono (Nat.le_refl _)) c0
   have q1 : wS.cell? ⟨b, off + k * 7 + 1, none⟩ = some (.bool y.nodes[k].up) := eD (hSw.mono (Nat.le_refl _)) c1
   have q2 : wS.cell? ⟨b, off + k * 7 + 2, none⟩ = some (.int .i64 y.nodes[k].ae) := eD (hSw.mono (Nat.le_refl _)) c2
   have q3 : wS.cell? ⟨b, off + k * 7 + 3, none⟩ = some (.int .i64 y.nodes[k].ar) := eD (hSw.mono (Nat.le_refl _)) c3
   have q4 : wS.cell? ⟨b, off + k * 7 + 4, none⟩ = some (.slice an y.nodes[k].writes.length dn) := eD (hSw.mono (Nat.le_refl _)) c4
   have q5 : wS.cell? ⟨b, off + k * 7 + 5, none⟩ = some (.int .i64 y.nodes[k].sure) := eD (hSw.mono (Nat.le_refl _)) c5
   have q6 : wS.cell? ⟨b, off + k * 7 + 6, none⟩ = some (.int .i64 y.nodes[k].clean) := eD (hSw.mono (Nat.le_refl _)) c6
   clear hSw
   exact fZ
  refine rdH 9 (fun K hK => ?_)
  have hHA := zq
  go_simp
  refine hK.out _ _ (zq.alloc zq.size _) (fun zq => ?_)
  clear hK K
  try simp only [Act.put, pz, py, px]
  refine rdH 10 (fun K hK => ?_)
  go_simp
  refine hK.out _ _ (hHA.alloc hHA.size _) (fun zq => ?_)
  clear hK K
  try simp only [Act.put, pz, py, px]
  refine tkH 11 zq ?_
  refine dZ ?_
  have HN : Hid (ag 0 #[.int .i64 y.nodes[k].id, .bool y.nodes[k].up, .int .i64 y.nodes[k].ae, .int .i64 y.nodes[k].ar, .slice an y.nodes[k].writes.length dn, .int .i64 y.nodes[k].sure, .int .i64 y.nodes[k].clean] 63 (wD.alloc (.cells #[.int .i64 y.nodes[k].id, .bool y.nodes[k].up, .int .i64 y.nodes[k].ae, .int .i64 y.nodes[k].ar, .slice an y.nodes[k].writes.length dn, .int .i64 y.nodes[k].sure, .int .i64 y.nodes[k].clean] 63)) wD.heap.size) := aC (Nat.zero_le _)
  replace HG := yh ((uh HG).aj zq)
  replace HO := yh ((uh HO).later zq)
  replace HX := yh ((uh HX).trans (ak zq _))
  replace HMB := yh ((uh HMB).aj zq)
  replace HRD := yh ((uh HRD).later zq)
  replace HRC := yh ((uh HRC).later zq)
  replace HMR := yh ((uh HMR).later zq)
  replace HE := yh ((uh HE).later zq)
  replace HND := yh ((uh HND).later zq)
  clear zq hHA hw1 hki hki0 c0 c1 c2 c3 c4 c5 c6
  generalize wD.alloc (.cells #[.int .i64 y.nodes[k].id, .bool y.nodes[k].up, .int .i64 y.nodes[k].ae, .int .i64 y.nodes[k].ar, .slice an y.nodes[k].writes.length dn, .int .i64 y.nodes[k].sure, .int .i64 y.nodes[k].clean] 63) = WN at *
  generalize wD.heap.size = gn at *
  go_upto_region 4 with fail
  by_cases hk2 : m.kind = 2
  ·
   have hdk : (m.kind == 2) = true := by simpa using hk2
   have hd1 : (m.kind == 1) = false := by rw [hk2]; decide
   have hfx := jG (d := 1) (uh HCF) (uh HMM) (uh HMP).2.1
   have hha := mw (uh HI) (uh HMM) (uh HEP) hk2
   rw [uh HNO1] at hha
   have HHA := yh hha
   have HFX := yh hfx
   clear hha hfx hk2
   cases hfb : gE m (br y.chain m.dst 1)
   ·
    have HNO : Hid (bU y m = none) := by
     have h1 := uh HFX
     rw [hfb] at h1
     have h2 : ¬ df y.chain.ids m.dst 1 = m.src := by simpa using h1.symm
     show bU y m = none
     rw [uh HHA, if_pos h2]
    refine wZz (fun w' => Below WN.heap.size WN w') ((Below.refl _ _).drew) (fun zq => ?_)
    generalize WN.drew = wE at zq ⊢
    refine tkH 0 zq ?_
    refine tkJ 1 (v := ?vd1) ?hd1 zq ?rd1
    case hd1 =>
     intro wS hSw
     have bM := (uh HMB).aj hSw
     have q0 := ag.at bM 0 _ rfl
     simp only [List.getElem_toArray, List.getElem_cons_zero] at q0
     clear bM hSw
     exact fZ
    refine tkH 2 zq ?_
    refine tkH 3 zq ?_
    refine tkJ 4 (v := ?vd4) ?hd4 zq ?rd4
    case hd4 =>
     intro wS hSw
     have bM := (uh HMB).aj hSw
     have q0 := ag.at bM 0 _ rfl
     have q1 := ag.at bM 1 _ rfl
     have q2 := ag.at bM 2 _ rfl
     have q3 := ag.at bM 3 _ rfl
     have q4 := ag.at bM 4 _ rfl
     have q5 := ag.at bM 5 _ rfl
     have q6 := ag.at bM 6 _ rfl
     have q7 := ag.at bM 7 _ rfl
     have q8 := ag.at bM 8 _ rfl
     have q9 := ag.at bM 9 _ rfl
     simp only [ga, gb, gc] at q0 q1 q2 q3 q4 q5 q6 q7 q8 q9
     clear bM hSw
     exact fZ
    refine tkH 5 zq ?_
    refine tkH 6 zq ?_
    refine tkH 7 zq ?_
    refine tkJ 8 (v := ?vd8) ?hd8 zq ?rd8
    case hd8 =>
     intro wS hSw
     have bG := (uh HG).aj hSw
     have p2 := ag.at bG 2 _ rfl
     have p3 := ag.at bG 3 _ rfl
     simp only [ga, gb, gc] at p2 p3
     clear bG hSw
     exact fZ
    refine tkH 9 zq ?_
    refine tkJ 10 (v := ?vd10) ?hd10 zq ?rd10
    case hd10 =>
     intro wS hSw
     have bM := (uh HMB).aj hSw
     have q3 := ag.at bM 3 _ rfl
     simp only [ga, gb, gc] at q3
     clear bM hSw
     exact fZ
    refine rdH 11 (fun K hK => ?_)
    go_simp
    go_at_call 170
    refine (kq _ y.chain m.dst _ ((uh HRC).later zq)).mono ?_
    rintro e uA ⟨us, rfl, O0, hbA⟩
    obtain ⟨rfl, -, -⟩ := eC O0
    try go_wp2_with fail
    refine hK.out _ _ (zq.trans (hbA.mono zq.size)) (fun zq => ?_)
    clear hK K
    try simp only [Act.put, pz, py, px]
    refine rdH 12 (fun K hK => ?_)
    go_simp
    go_at_call 169
    refine (iC _ m (br y.chain m.dst 1) _ ((uh HMR).later zq)).mono ?_
    rintro e uB ⟨rfl, hbB⟩
    rw [hfb]
    try go_wp2_with fail
    refine hK.out _ _ (zq.trans (hbB.mono zq.size)) (fun zq => ?_)
    clear hK K
    try simp only [Act.put, pz, py, px]
    refine tkH 13 zq ?_
    refine tkH 14 zq ?_
    refine dZ ?_
    replace HG := yh ((uh HG).aj zq)
    replace HO := yh ((uh HO).later zq)
    replace HX := yh ((uh HX).trans (ak zq _))
    replace HMB := yh ((uh HMB).aj zq)
    replace HRD := yh ((uh HRD).later zq)
    replace HRC := yh ((uh HRC).later zq)
    replace HMR := yh ((uh HMR).later zq)
    replace HE := yh ((uh HE).later zq)
    replace HN := yh ((uh HN).aj zq)
    replace HND := yh ((uh HND).later zq)
    clear zq
    clear hfb HHA HFX hbA hbB
    go_upto_region 6 with fail
    refine wZz (fun w' => Below uB.heap.size uB w') ((Below.refl _ _).drew) (fun zq => ?_)
    generalize uB.drew = wF at zq ⊢
    refine tkH 0 zq ?_
    refine tkJ 1 (v := ?vo1) ?ho1 zq ?ro1
    case ho1 =>
     intro wS hSw
     have bM := (uh HMB).aj hSw
     have q0 := ag.at bM 0 _ rfl
     simp only [List.getElem_toArray, List.getElem_cons_zero] at q0
     clear bM hSw
     exact fZ
    refine tkH 2 zq ?_
    refine tkH 3 zq ?_
    refine skH 4 zq ?_
    refine skH 5 zq ?_
    refine skH 6 zq ?_
    refine skH 7 zq ?_
    refine skH 8 zq ?_
    refine skH 9 zq ?_
    refine skH 10 zq ?_
    refine skH 11 zq ?_
    refine skH 12 zq ?_
    refine tkH 13 zq ?_
    refine tkH 14 zq ?_
    refine skH 15 zq ?_
    refine skH 16 zq ?_
    refine skH 17 zq ?_
    refine tkH 18 zq ?_
    refine tkH 19 zq ?_
    refine dZ ?_
    replace HG := yh ((uh HG).aj zq)
    replace HO := yh ((uh HO).later zq)
    replace HX := yh ((uh HX).trans (ak zq _))
    replace HMB := yh ((uh HMB).aj zq)
    replace HRD := yh ((uh HRD).later zq)
    replace HRC := yh ((uh HRC).later zq)
    replace HMR := yh ((uh HMR).later zq)
    replace HE := yh ((uh HE).later zq)
    replace HN := yh ((uh HN).aj zq)
    replace HND := yh ((uh HND).later zq)
    clear zq
    clear HMB HRD HRC HMR HN HND
    go_wp2_with fail
    go_ret
    unfold dB
    exact ⟨by rw [(ba (uh HNO)).1]; rfl, by rw [(ba (uh HNO)).2]; exact ⟨_, _, _, _, uh HG, uh HO⟩, uh HX⟩
   have HSO : Hid (bU y m = some (fb y.nodes[k] m.index).node) := by
    have h1 := uh HFX
    rw [hfb] at h1
    have h2 : df y.chain.ids m.dst 1 = m.src := by simpa using h1.symm
    show bU y m = some _
    rw [uh HHA, if_neg (by simp [h2]), lg (uh HNF k hk).1 (uh HUP) (uh HMP).2.2.1]
   refine wZz (fun w' => Below WN.heap.size WN w') ((Below.refl _ _).drew) (fun zq => ?_)
   generalize WN.drew = wE at zq ⊢
   refine tkH 0 zq ?_
   refine tkJ 1 (v := ?vf1) ?hf1 zq ?rf1
   case hf1 =>
    intro wS hSw
    have bM := (uh HMB).aj hSw
    have q0 := ag.at bM 0 _ rfl
    simp only [List.getElem_toArray, List.getElem_cons_zero] at q0
    clear bM hSw
    exact fZ
   refine tkH 2 zq ?_
   refine tkH 3 zq ?_
   refine tkJ 4 (v := ?vf4) ?hf4 zq ?rf4
   case hf4 =>
    intro wS hSw
    have bM := (uh HMB).aj hSw
    have q0 := ag.at bM 0 _ rfl
    have q1 := ag.at bM 1 _ rfl
    have q2 := ag.at bM 2 _ rfl
    have q3 := ag.at bM 3 _ rfl
    have q4 := ag.at bM 4 _ rfl
    have q5 := ag.at bM 5 _ rfl
    have q6 := ag.at bM 6 _ rfl
    have q7 := ag.at bM 7 _ rfl
    have q8 := ag.at bM 8 _ rfl
    have q9 := ag.at bM 9 _ rfl
    simp only [ga, gb, gc] at q0 q1 q2 q3 q4 q5 q6 q7 q8 q9
    clear bM hSw
    exact fZ
   refine tkH 5 zq ?_
   refine tkH 6 zq ?_
   refine tkH 7 zq ?_
   refine tkJ 8 (v := ?vf8) ?hf8 zq ?rf8
   case hf8 =>
    intro wS hSw
    have bG := (uh HG).aj hSw
    have p2 := ag.at bG 2 _ rfl
    have p3 := ag.at bG 3 _ rfl
    simp only [ga, gb, gc] at p2 p3
    clear bG hSw
    exact fZ
   refine tkH 9 zq ?_
   refine tkJ 10 (v := ?vf10) ?hf10 zq ?rf10
   case hf10 =>
    intro wS hSw
    have bM := (uh HMB).aj hSw
    have q3 := ag.at bM 3 _ rfl
    simp only [ga, gb, gc] at q3
    clear bM hSw
    exact fZ
   refine rdH 11 (fun K hK => ?_)
   go_simp
   go_at_call 170
   refine (kq _ y.chain m.dst _ ((uh HRC).later zq)).mono ?_
   rintro e uA ⟨us, rfl, O0, hbA⟩
   obtain ⟨rfl, -, -⟩ := eC O0
   try go_wp2_with fail
   refine hK.out _ _ (zq.trans (hbA.mono zq.size)) (fun zq => ?_)
   clear hK K
   try simp only [Act.put, pz, py, px]
   refine rdH 12 (fun K hK => ?_)
   go_simp
   go_at_call 169
   refine (iC _ m (br y.chain m.dst 1) _ ((uh HMR).later zq)).mono ?_
   rintro e uB ⟨rfl, hbB⟩
   rw [hfb]
   try go_wp2_with fail
   refine hK.out _ _ (zq.trans (hbB.mono zq.size)) (fun zq => ?_)
   clear hK K
   try simp only [Act.put, pz, py, px]
   refine tkH 13 zq ?_
   refine tkH 14 zq ?_
   refine dZ ?_
   replace HG := yh ((uh HG).aj zq)
   replace HO := yh ((uh HO).later zq)
   replace HX := yh ((uh HX).trans (ak zq _))
   replace HMB := yh ((uh HMB).aj zq)
   replace HRD := yh ((uh HRD).later zq)
   replace HRC := yh ((uh HRC).later zq)
   replace HMR := yh ((uh HMR).later zq)
   replace HE := yh ((uh HE).later zq)
   replace HN := yh ((uh HN).aj zq)
   replace HND := yh ((uh HND).later zq)
   clear zq
   clear hfb HHA HFX hbA hbB
   go_upto_region 5 with fail
   have HCL := yh (lr _ y.nodes[k] m.index uB (uh HND))
   have bN := uh HN
   have n0 := ag.at bN 0 _ rfl
   have n1 := ag.at bN 1 _ rfl
   have n2 := ag.at bN 2 _ rfl
   have n3 := ag.at bN 3 _ rfl
   have n4 := ag.at bN 4 _ rfl
   have n5 := ag.at bN 5 _ rfl
   have n6 := ag.at bN 6 _ rfl
   have m4 := ag.at (uh HMB) 4 _ rfl
   simp only [ga, gb, gc] at m4 n0 n1 n2 n3 n4 n5 n6
   have nl := bN.lt
   have ml := (uh HMB).lt
   clear bN
   go_wp2_with fail
   refine (uh HCL).mono ?_
   rintro e w3 ⟨us, rfl, O, hb3⟩
   have HSN := yh (ke g lo k _ _ _ _ y us (fb y.nodes[k] m.index) uB w3 (uh HG) (uh HO) hb3 O (by rw [lg (uh HNF k hk).1 (uh HUP) (uh HMP).2.2.1]) hk hn5 (by rw [lg (uh HNF k hk).1 (uh HUP) (uh HMP).2.2.1]; exact (uh HNF k hk).2))
   replace HX := yh ((uh HX).trans (ak hb3 _))
   clear HCL O hb3 m4 n0 n1 n2 n3 n4 n5 n6 nl ml
   go_wp2_with fail
   refine (uh HSN).mono ?_
   rintro e w5 ⟨rfl, ⟨u3, u4, u5, u6, hgz, hOz⟩, he5⟩
   have HGZ := yh hgz
   have HOZ := yh hOz
   replace HX := yh ((uh HX).trans he5)
   clear HSN hgz hOz he5 HG HO HMB HRD HRC HMR HN HND
   go_wp2_with fail
   go_ret
   unfold dB
   exact ⟨by rw [(cS (uh HSO)).1]; rfl, by rw [(cS (uh HSO)).2]; exact ⟨_, _, _, _, uh HGZ, uh HOZ⟩, uh HX⟩
  have hdk : (m.kind == 2) = false := by simpa using hk2
  have hd1 : (m.kind == 1) = true := by
   rcases (uh HMP).1 with q | q
   ·
    rw [q]; decide
   exact absurd q hk2
  have hfx := jG (d := (-1)) (uh HCF) (uh HMM) (uh HMP).2.1
  have hha := lY (uh HI) (uh HMM) (uh HEP) hk2
  rw [uh HNO1] at hha
  have hns := rB (m := m) (uh HNF k hk).1 ((uh HMP).2.2.2 hk2)
  have HHA := yh hha
  have HFX := yh hfx
  have HNS := yh hns
  clear hha hfx hk2 hns
  refine wZz (fun w' => Below WN.heap.size WN w') ((Below.refl _ _).drew) (fun zq => ?_)
  generalize WN.drew = wE at zq ⊢
  refine tkH 0 zq ?_
  refine tkJ 1 (v := ?vh1) ?hh1 zq ?rh1
  case hh1 =>
   intro wS hSw
   have bM := (uh HMB).aj hSw
   have q0 := ag.at bM 0 _ rfl
   simp only [List.getElem_toArray, List.getElem_cons_zero] at q0
   clear bM hSw
   exact fZ
  refine tkH 2 zq ?_
  refine tkH 3 zq ?_
  refine skH 4 zq ?_
  refine skH 5 zq ?_
  refine skH 6 zq ?_
  refine skH 7 zq ?_
  refine skH 8 zq ?_
  refine skH 9 zq ?_
  refine skH 10 zq ?_
  refine skH 11 zq ?_
  refine skH 12 zq ?_
  refine tkH 13 zq ?_
  refine tkH 14 zq ?_
  refine dZ ?_
  replace HG := yh ((uh HG).aj zq)
  replace HO := yh ((uh HO).later zq)
  replace HX := yh ((uh HX).trans (ak zq _))
  replace HMB := yh ((uh HMB).aj zq)
  replace HRD := yh ((uh HRD).later zq)
  replace HRC := yh ((uh HRC).later zq)
  replace HMR := yh ((uh HMR).later zq)
  replace HE := yh ((uh HE).later zq)
  replace HN := yh ((uh HN).aj zq)
  replace HND := yh ((uh HND).later zq)
  clear zq
  go_upto_region 6 with fail
  cases hfb : gE m (br y.chain m.dst (-1))
  ·
   have HNO : Hid (bU y m = none) := by
    have h1 := uh HFX
    rw [hfb] at h1
    have h2 : ¬ df y.chain.ids m.dst (-1) = m.src := by simpa using h1.symm
    show bU y m = none
    rw [uh HHA, if_pos (Or.inl h2)]
   refine wZz (fun w' => Below wE.heap.size wE w') ((Below.refl _ _).drew) (fun zq => ?_)
   generalize wE.drew = wF at zq ⊢
   refine tkH 0 zq ?_
   refine tkJ 1 (v := ?vp1) ?hp1 zq ?rp1
   case hp1 =>
    intro wS hSw
    have bM := (uh HMB).aj hSw
    have q0 := ag.at bM 0 _ rfl
    simp only [List.getElem_toArray, List.getElem_cons_zero] at q0
    clear bM hSw
    exact fZ
   refine tkH 2 zq ?_
   refine tkH 3 zq ?_
   refine tkJ 4 (v := ?vp4) ?hp4 zq ?rp4
   case hp4 =>
    intro wS hSw
    have bM := (uh HMB).aj hSw
    have q0 := ag.at bM 0 _ rfl
    have q1 := ag.at bM 1 _ rfl
    have q2 := ag.at bM 2 _ rfl
    have q3 := ag.at bM 3 _ rfl
    have q4 := ag.at bM 4 _ rfl
    have q5 := ag.at bM 5 _ rfl
    have q6 := ag.at bM 6 _ rfl
    have q7 := ag.at bM 7 _ rfl
    have q8 := ag.at bM 8 _ rfl
    have q9 := ag.at bM 9 _ rfl
    simp only [ga, gb, gc] at q0 q1 q2 q3 q4 q5 q6 q7 q8 q9
    clear bM hSw
    exact fZ
   refine tkH 5 zq ?_
   refine tkH 6 zq ?_
   refine tkH 7 zq ?_
   refine tkJ 8 (v := ?vp8) ?hp8 zq ?rp8
   case hp8 =>
    intro wS hSw
    have bG := (uh HG).aj hSw
    have p2 := ag.at bG 2 _ rfl
    have p3 := ag.at bG 3 _ rfl
    simp only [ga, gb, gc] at p2 p3
    clear bG hSw
    exact fZ
   refine tkH 9 zq ?_
   refine tkJ 10 (v := ?vp10) ?hp10 zq ?rp10
   case hp10 =>
    intro wS hSw
    have bM := (uh HMB).aj hSw
    have q3 := ag.at bM 3 _ rfl
    simp only [ga, gb, gc] at q3
    clear bM hSw
    exact fZ
   refine rdH 11 (fun K hK => ?_)
   go_simp
   go_at_call 172
   refine (im _ y.chain m.dst _ ((uh HRC).later zq)).mono ?_
   rintro e uA ⟨us, rfl, O0, hbA⟩
   obtain ⟨rfl, -, -⟩ := eC O0
   try go_wp2_with fail
   refine hK.out _ _ (zq.trans (hbA.mono zq.size)) (fun zq => ?_)
   clear hK K
   try simp only [Act.put, pz, py, px]
   refine rdH 12 (fun K hK => ?_)
   go_simp
   go_at_call 169
   refine (iC _ m (br y.chain m.dst (-1)) _ ((uh HMR).later zq)).mono ?_
   rintro e uB ⟨rfl, hbB⟩
   rw [hfb]
   try go_wp2_with fail
   refine hK.out _ _ (zq.trans (hbB.mono zq.size)) (fun zq => ?_)
   clear hK K
   try simp only [Act.put, pz, py, px]
   refine tkH 13 zq ?_
   refine tkH 14 zq ?_
   refine skH 15 zq ?_
   refine skH 16 zq ?_
   refine skH 17 zq ?_
   refine tkH 18 zq ?_
   refine tkH 19 zq ?_
   refine dZ ?_
   replace HG := yh ((uh HG).aj zq)
   replace HO := yh ((uh HO).later zq)
   replace HX := yh ((uh HX).trans (ak zq _))
   replace HMB := yh ((uh HMB).aj zq)
   replace HRD := yh ((uh HRD).later zq)
   replace HRC := yh ((uh HRC).later zq)
   replace HMR := yh ((uh HMR).later zq)
   replace HE := yh ((uh HE).later zq)
   replace HN := yh ((uh HN).aj zq)
   replace HND := yh ((uh HND).later zq)
   clear zq
   clear HMB HRD HRC HMR HN HND
   go_wp2_with fail
   go_ret
   unfold dB
   exact ⟨by rw [(ba (uh HNO)).1]; rfl, by rw [(ba (uh HNO)).2]; exact ⟨_, _, _, _, uh HG, uh HO⟩, uh HX⟩
  have hnx : df y.chain.ids m.dst (-1) = m.src := by
   have h1 := uh HFX
   rw [hfb] at h1
   simpa using h1.symm
  have HNX := yh hnx
  clear hnx
  cases hnb : nU y.nodes[k] m
  ·
   have HNO : Hid (bU y m = none) := by
    have h1 := uh HNS
    rw [hnb] at h1
    show bU y m = none
    rw [uh HHA]
    by_cases c : m.index = (y.nodes[k].writes.length : Int) + 1
    ·
     rw [if_neg (by simp [uh HNX, c])]
     have h2 : ¬ bV y.nodes[k].writes m.write.aa m.write.seq = 0 := fun q => by rw [q, c] at h1; simp at h1
     rw [if_pos (by omega)]
    rw [if_pos (Or.inr c)]
   refine wZz (fun w' => Below wE.heap.size wE w') ((Below.refl _ _).drew) (fun zq => ?_)
   generalize wE.drew = wF at zq ⊢
   refine tkH 0 zq ?_
   refine tkJ 1 (v := ?vq1) ?hq1 zq ?rq1
   case hq1 =>
    intro wS hSw
    have bM := (uh HMB).aj hSw
    have q0 := ag.at bM 0 _ rfl
    simp only [List.getElem_toArray, List.getElem_cons_zero] at q0
    clear bM hSw
    exact fZ
   refine tkH 2 zq ?_
   refine tkH 3 zq ?_
   refine tkJ 4 (v := ?vq4) ?hq4 zq ?rq4
   case hq4 =>
    intro wS hSw
    have bM := (uh HMB).aj hSw
    have q0 := ag.at bM 0 _ rfl
    have q1 := ag.at bM 1 _ rfl
    have q2 := ag.at bM 2 _ rfl
    have q3 := ag.at bM 3 _ rfl
    have q4 := ag.at bM 4 _ rfl
    have q5 := ag.at bM 5 _ rfl
    have q6 := ag.at bM 6 _ rfl
    have q7 := ag.at bM 7 _ rfl
    have q8 := ag.at bM 8 _ rfl
    have q9 := ag.at bM 9 _ rfl
    simp only [ga, gb, gc] at q0 q1 q2 q3 q4 q5 q6 q7 q8 q9
    clear bM hSw
    exact fZ
   refine tkH 5 zq ?_
   refine tkH 6 zq ?_
   refine tkH 7 zq ?_
   refine tkJ 8 (v := ?vq8) ?hq8 zq ?rq8
   case hq8 =>
    intro wS hSw
    have bG := (uh HG).aj hSw
    have p2 := ag.at bG 2 _ rfl
    have p3 := ag.at bG 3 _ rfl
    simp only [ga, gb, gc] at p2 p3
    clear bG hSw
    exact fZ
   refine tkH 9 zq ?_
   refine tkJ 10 (v := ?vq10) ?hq10 zq ?rq10
   case hq10 =>
    intro wS hSw
    have bM := (uh HMB).aj hSw
    have q3 := ag.at bM 3 _ rfl
    simp only [ga, gb, gc] at q3
    clear bM hSw
    exact fZ
   refine rdH 11 (fun K hK => ?_)
   go_simp
   go_at_call 172
   refine (im _ y.chain m.dst _ ((uh HRC).later zq)).mono ?_
   rintro e uA ⟨us, rfl, O0, hbA⟩
   obtain ⟨rfl, -, -⟩ := eC O0
   try go_wp2_with fail
   refine hK.out _ _ (zq.trans (hbA.mono zq.size)) (fun zq => ?_)
   clear hK K
   try simp only [Act.put, pz, py, px]
   refine rdH 12 (fun K hK => ?_)
   go_simp
   go_at_call 169
   refine (iC _ m (br y.chain m.dst (-1)) _ ((uh HMR).later zq)).mono ?_
   rintro e uB ⟨rfl, hbB⟩
   rw [hfb]
   try go_wp2_with fail
   refine hK.out _ _ (zq.trans (hbB.mono zq.size)) (fun zq => ?_)
   clear hK K
   try simp only [Act.put, pz, py, px]
   refine tkH 13 zq ?_
   refine tkH 14 zq ?_
   refine tkJ 15 (v := ?vq15) ?hq15 zq ?rq15
   case hq15 =>
    intro wS hSw
    have bN := (uh HN).aj hSw
    have n0 := ag.at bN 0 _ rfl
    have n1 := ag.at bN 1 _ rfl
    have n2 := ag.at bN 2 _ rfl
    have n3 := ag.at bN 3 _ rfl
    have n4 := ag.at bN 4 _ rfl
    have n5 := ag.at bN 5 _ rfl
    have n6 := ag.at bN 6 _ rfl
    simp only [ga, gb, gc] at n0 n1 n2 n3 n4 n5 n6
    clear bN hSw
    exact fZ
   refine tkJ 16 (v := ?vq16) ?hq16 zq ?rq16
   case hq16 =>
    intro wS hSw
    have bM := (uh HMB).aj hSw
    have q0 := ag.at bM 0 _ rfl
    have q1 := ag.at bM 1 _ rfl
    have q2 := ag.at bM 2 _ rfl
    have q3 := ag.at bM 3 _ rfl
    have q4 := ag.at bM 4 _ rfl
    have q5 := ag.at bM 5 _ rfl
    have q6 := ag.at bM 6 _ rfl
    have q7 := ag.at bM 7 _ rfl
    have q8 := ag.at bM 8 _ rfl
    have q9 := ag.at bM 9 _ rfl
    simp only [ga, gb, gc] at q0 q1 q2 q3 q4 q5 q6 q7 q8 q9
    clear bM hSw
    exact fZ
   refine rdH 17 (fun K hK => ?_)
   go_simp
   go_at_call 173
   refine (mH _ _ y.nodes[k] m _ ((uh HND).later zq) ((uh HMR).later zq) (uh HWL)).mono ?_
   rintro e uC ⟨rfl, hbC⟩
   rw [hnb]
   try go_wp2_with fail
   refine hK.out _ _ (zq.trans (hbC.mono zq.size)) (fun zq => ?_)
   clear hK K
   try simp only [Act.put, pz, py, px]
   refine tkH 18 zq ?_
   refine tkH 19 zq ?_
   refine dZ ?_
   replace HG := yh ((uh HG).aj zq)
   replace HO := yh ((uh HO).later zq)
   replace HX := yh ((uh HX).trans (ak zq _))
   replace HMB := yh ((uh HMB).aj zq)
   replace HRD := yh ((uh HRD).later zq)
   replace HRC := yh ((uh HRC).later zq)
   replace HMR := yh ((uh HMR).later zq)
   replace HE := yh ((uh HE).later zq)
   replace HN := yh ((uh HN).aj zq)
   replace HND := yh ((uh HND).later zq)
   clear zq
   clear HMB HRD HRC HMR HN HND
   go_wp2_with fail
   go_ret
   unfold dB
   exact ⟨by rw [(ba (uh HNO)).1]; rfl, by rw [(ba (uh HNO)).2]; exact ⟨_, _, _, _, uh HG, uh HO⟩, uh HX⟩
  have HTN : Hid (bU y m = if (takeN y.nodes[k] m.write).1 = 0 then some (takeN y.nodes[k] m.write).2 else none) := by
   have h1 := uh HNS
   rw [hnb] at h1
   have h2 : bV y.nodes[k].writes m.write.aa m.write.seq = 0 ∧ m.index = (y.nodes[k].writes.length : Int) + 1 := by simpa using h1.symm
   show bU y m = _
   rw [uh HHA, if_neg (by simp [uh HNX, h2.2]), if_neg (by omega)]
  refine wZz (fun w' => Below wE.heap.size wE w') ((Below.refl _ _).drew) (fun zq => ?_)
  generalize wE.drew = wF at zq ⊢
  refine tkH 0 zq ?_
  refine tkJ 1 (v := ?vs1) ?hs1 zq ?rs1
  case hs1 =>
   intro wS hSw
   have bM := (uh HMB).aj hSw
   have q0 := ag.at bM 0 _ rfl
   simp only [List.getElem_toArray, List.getElem_cons_zero] at q0
   clear bM hSw
   exact fZ
  refine tkH 2 zq ?_
  refine tkH 3 zq ?_
  refine tkJ 4 (v := ?vs4) ?hs4 zq ?rs4
  case hs4 =>
   intro wS hSw
   have bM := (uh HMB).aj hSw
   have q0 := ag.at bM 0 _ rfl
   have q1 := ag.at bM 1 _ rfl
   have q2 := ag.at bM 2 _ rfl
   have q3 := ag.at bM 3 _ rfl
   have q4 := ag.at bM 4 _ rfl
   have q5 := ag.at bM 5 _ rfl
   have q6 := ag.at bM 6 _ rfl
   have q7 := ag.at bM 7 _ rfl
   have q8 := ag.at bM 8 _ rfl
   have q9 := ag.at bM 9 _ rfl
   simp only [ga, gb, gc] at q0 q1 q2 q3 q4 q5 q6 q7 q8 q9
   clear bM hSw
   exact fZ
  refine tkH 5 zq ?_
  refine tkH 6 zq ?_
  refine tkH 7 zq ?_
  refine tkJ 8 (v := ?vs8) ?hs8 zq ?rs8
  case hs8 =>
   intro wS hSw
   have bG := (uh HG).aj hSw
   have p2 := ag.at bG 2 _ rfl
   have p3 := ag.at bG 3 _ rfl
   simp only [ga, gb, gc] at p2 p3
   clear bG hSw
   exact fZ
  refine tkH 9 zq ?_
  refine tkJ 10 (v := ?vs10) ?hs10 zq ?rs10
  case hs10 =>
   intro wS hSw
   have bM := (uh HMB).aj hSw
   have q3 := ag.at bM 3 _ rfl
   simp only [ga, gb, gc] at q3
   clear bM hSw
   exact fZ
  refine rdH 11 (fun K hK => ?_)
  go_simp
  go_at_call 172
  refine (im _ y.chain m.dst _ ((uh HRC).later zq)).mono ?_
  rintro e uA ⟨us, rfl, O0, hbA⟩
  obtain ⟨rfl, -, -⟩ := eC O0
  try go_wp2_with fail
  refine hK.out _ _ (zq.trans (hbA.mono zq.size)) (fun zq => ?_)
  clear hK K
  try simp only [Act.put, pz, py, px]
  refine rdH 12 (fun K hK => ?_)
  go_simp
  go_at_call 169
  refine (iC _ m (br y.chain m.dst (-1)) _ ((uh HMR).later zq)).mono ?_
  rintro e uB ⟨rfl, hbB⟩
  rw [hfb]
  try go_wp2_with fail
  refine hK.out _ _ (zq.trans (hbB.mono zq.size)) (fun zq => ?_)
  clear hK K
  try simp only [Act.put, pz, py, px]
  refine tkH 13 zq ?_
  refine tkH 14 zq ?_
  refine tkJ 15 (v := ?vs15) ?hs15 zq ?rs15
  case hs15 =>
   intro wS hSw
   have bN := (uh HN).aj hSw
   have n0 := ag.at bN 0 _ rfl
   have n1 := ag.at bN 1 _ rfl
   have n2 := ag.at bN 2 _ rfl
   have n3 := ag.at bN 3 _ rfl
   have n4 := ag.at bN 4 _ rfl
   have n5 := ag.at bN 5 _ rfl
   have n6 := ag.at bN 6 _ rfl
   simp only [ga, gb, gc] at n0 n1 n2 n3 n4 n5 n6
   clear bN hSw
   exact fZ
  refine tkJ 16 (v := ?vs16) ?hs16 zq ?rs16
  case hs16 =>
   intro wS hSw
   have bM := (uh HMB).aj hSw
   have q0 := ag.at bM 0 _ rfl
   have q1 := ag.at bM 1 _ rfl
   have q2 := ag.at bM 2 _ rfl
   have q3 := ag.at bM 3 _ rfl
   have q4 := ag.at bM 4 _ rfl
   have q5 := ag.at bM 5 _ rfl
   have q6 := ag.at bM 6 _ rfl
   have q7 := ag.at bM 7 _ rfl
   have q8 := ag.at bM 8 _ rfl
   have q9 := ag.at bM 9 _ rfl
   simp only [ga, gb, gc] at q0 q1 q2 q3 q4 q5 q6 q7 q8 q9
   clear bM hSw
   exact fZ
  refine rdH 17 (fun K hK => ?_)
  go_simp
  go_at_call 173
  refine (mH _ _ y.nodes[k] m _ ((uh HND).later zq) ((uh HMR).later zq) (uh HWL)).mono ?_
  rintro e uC ⟨rfl, hbC⟩
  rw [hnb]
  try go_wp2_with fail
  refine hK.out _ _ (zq.trans (hbC.mono zq.size)) (fun zq => ?_)
  clear hK K
  try simp only [Act.put, pz, py, px]
  refine tkH 18 zq ?_
  refine tkH 19 zq ?_
  refine dZ ?_
  replace HG := yh ((uh HG).aj zq)
  replace HO := yh ((uh HO).later zq)
  replace HX := yh ((uh HX).trans (ak zq _))
  replace HMB := yh ((uh HMB).aj zq)
  replace HRD := yh ((uh HRD).later zq)
  replace HRC := yh ((uh HRC).later zq)
  replace HMR := yh ((uh HMR).later zq)
  replace HE := yh ((uh HE).later zq)
  replace HN := yh ((uh HN).aj zq)
  replace HND := yh ((uh HND).later zq)
  clear zq
  clear hfb hnb
  go_upto_region 7 with fail
  have HTC := yh (rI (v := m.write) (uh HNF k hk).1 (uh HUP))
  have HTK := yh (ln _ y.nodes[k] _ m.write uC (uh HE) (uh HND) (rU (uh HMR)))
  have bN := uh HN
  have bM := uh HMB
  have n0 := ag.at bN 0 _ rfl
  have n1 := ag.at bN 1 _ rfl
  have n2 := ag.at bN 2 _ rfl
  have n3 := ag.at bN 3 _ rfl
  have n4 := ag.at bN 4 _ rfl
  have n5 := ag.at bN 5 _ rfl
  have n6 := ag.at bN 6 _ rfl
  have m5 := ag.at bM 5 _ rfl
  have m6 := ag.at bM 6 _ rfl
  have m7 := ag.at bM 7 _ rfl
  have m8 := ag.at bM 8 _ rfl
  have m9 := ag.at bM 9 _ rfl
  simp only [ga, gb, gc] at m5 m6 m7 m8 m9 n0 n1 n2 n3 n4 n5 n6
  have nl := bN.lt
  have ml := bM.lt
  clear bN bM
  go_wp2_with fail
  refine (uh HTK).mono ?_
  rintro e w3 ⟨us, rfl, O, hb3⟩
  clear m5 m6 m7 m8 m9 n0 n1 n2 n3 n4 n5 n6 nl ml HTK
  by_cases htc : (fg y.nodes[k] m.write).code = 0
  ·
   have HSO : Hid (bU y m = some (fg y.nodes[k] m.write).node) := by
    show bU y m = some _
    rw [uh HTN, if_pos ((uh HTC).1.1 htc), (uh HTC).2 htc]
   have HSN := yh (ke g lo k _ _ _ _ y us (fg y.nodes[k] m.write) uC w3 (uh HG) (uh HO) hb3 O htc hk hn5 (by rw [(uh HTC).2 htc, tE]; exact (uh HNF k hk).2))
   replace HX := yh ((uh HX).trans (ak hb3 _))
   clear O hb3 htc
   go_wp2_with fail
   refine (uh HSN).mono ?_
   rintro e w5 ⟨rfl, ⟨u3, u4, u5, u6, hgz, hOz⟩, he5⟩
   have HGZ := yh hgz
   have HOZ := yh hOz
   replace HX := yh ((uh HX).trans he5)
   clear HSN hgz hOz he5 HG HO HMB HRD HRC HMR HN HND
   go_wp2_with fail
   go_ret
   unfold dB
   exact ⟨by rw [(cS (uh HSO)).1]; rfl, by rw [(cS (uh HSO)).2]; exact ⟨_, _, _, _, uh HGZ, uh HOZ⟩, uh HX⟩
  have HNO : Hid (bU y m = none) := by
   show bU y m = none
   rw [uh HTN, if_neg (fun q => htc ((uh HTC).1.2 q))]
  have HSN := yh (ou g us (fg y.nodes[k] m.write) w3 O.reads htc)
  replace HX := yh ((uh HX).trans (ak hb3 _))
  replace HG := yh ((uh HG).aj hb3)
  replace HO := yh ((uh HO).later hb3)
  clear O hb3 htc
  go_wp2_with fail
  refine (uh HSN).mono ?_
  rintro e w5 ⟨rfl, hb5⟩
  replace HX := yh ((uh HX).trans (ak hb5 _))
  replace HG := yh ((uh HG).aj hb5)
  replace HO := yh ((uh HO).later hb5)
  clear HSN hb5 HMB HRD HRC HMR HN HND
  go_wp2_with fail
  go_ret
  unfold dB
  exact ⟨by rw [(ba (uh HNO)).1]; rfl, by rw [(ba (uh HNO)).2]; exact ⟨_, _, _, _, uh HG, uh HO⟩, uh HX⟩
 have hde : (m.ae != y.chain.ae) = true := by simpa using hep
 have HNO := yh (jy hep)
 clear hep
 refine wZz (fun w' => Below W1.heap.size W1 w') ((Below.refl _ _).drew) (fun zq => ?_)
 generalize W1.drew = wD at zq ⊢
 refine tkH 0 zq ?_
 refine tkH 1 zq ?_
 refine tkJ 2 (v := ?vc2) ?hc2 zq ?rc2
 case hc2 =>
  intro wS hSw
  have bG := (uh HG).aj hSw
  have p0 := ag.at bG 0 _ rfl
  have p1 := ag.at bG 1 _ rfl
  have p2 := ag.at bG 2 _ rfl
  have p3 := ag.at bG 3 _ rfl
  have p4 := ag.at bG 4 _ rfl
  have p5 := ag.at bG 5 _ rfl
  have p6 := ag.at bG 6 _ rfl
  simp only [ga, gb, gc] at p0 p1 p2 p3 p4 p5 p6
  clear bG hSw
  exact fZ
 refine tkH 3 zq ?_
 refine tkJ 4 (v := ?vc4) ?hc4 zq ?rc4
 case hc4 =>
  intro wS hSw
  have bM := (uh HMB).aj hSw
  have q3 := ag.at bM 3 _ rfl
  simp only [ga, gb, gc] at q3
  clear bM hSw
  exact fZ
 refine rdH 5 (fun K hK => ?_)
 go_simp
 go_at_call 103
 refine (jb _ y m.dst _ ((uh HRD).later zq) (uh HI) hn5).mono ?_
 rintro e u1 ⟨rfl, hbu⟩
 rw [iq, hmb]
 try go_wp2_with fail
 refine hK.out _ _ (zq.trans (hbu.mono zq.size)) (fun zq => ?_)
 clear hK K
 try simp only [Act.put, pz, py, px]
 refine tkH 6 zq ?_
 refine tkH 7 zq ?_
 refine tkH 8 zq ?_
 refine tkJ 9 (v := ?vc9) ?hc9 zq ?rc9
 case hc9 =>
  intro wS hSw
  have bM := (uh HMB).aj hSw
  have q1 := ag.at bM 1 _ rfl
  simp only [ga, gb, gc] at q1
  clear bM hSw
  exact fZ
 refine tkH 10 zq ?_
 refine tkH 11 zq ?_
 refine tkH 12 zq ?_
 refine tkH 13 zq ?_
 refine tkJ 14 (v := ?vc14) ?hc14 zq ?rc14
 case hc14 =>
  intro wS hSw
  have bG := (uh HG).aj hSw
  have p2 := ag.at bG 2 _ rfl
  simp only [ga, gb, gc] at p2
  clear bG hSw
  exact fZ
 refine tkH 15 zq ?_
 refine tkH 16 zq ?_
 refine dZ ?_
 replace HG := yh ((uh HG).aj zq)
 replace HO := yh ((uh HO).later zq)
 replace HX := yh ((uh HX).trans (ak zq _))
 replace HMB := yh ((uh HMB).aj zq)
 replace HRD := yh ((uh HRD).later zq)
 replace HRC := yh ((uh HRC).later zq)
 replace HMR := yh ((uh HMR).later zq)
 replace HE := yh ((uh HE).later zq)
 clear zq HMB HRD HRC HMR hbu
 go_wp2_with fail
 go_ret
 unfold dB
 exact ⟨by rw [(ba (uh HNO)).1]; rfl, by rw [(ba (uh HNO)).2]; exact ⟨_, _, _, _, uh HG, uh HO⟩, uh HX⟩
def gB (y : ay) (i : Int) : bu := y.msgs.getD i.toNat gm
def eJ (y : ay) (i : Int) : Int := if 0 ≤ i ∧ i ≤ (y.msgs.length : Int) - 1 then 0 else 3
def nz (g lo : Nat) (c : Int) (mv : Bool) (z : ay) (W : World) (e : Ending) (W' : World) : Prop :=
 ∃ m, e = .returned (.tuple #[.bool m, .int .i64 c]) ∧ (c = 0 → m = mv ∧ ∃ (u3 u4 u5 u6 : Value), ag 0 #[.int .i64 z.now, .int .i64 z.events, .int .i64 z.chain.ae, u3, u4, u5, u6] 39 W' g ∧ fu W' lo g [.int .i64 z.now, .int .i64 z.events, .int .i64 z.chain.ae, u3, u4, u5, u6] z) ∧ Ext (fun q => lo ≤ q) W W'
theorem tX (y : ay) (i : Int) : -1000000000 ≤ eJ y i ∧ eJ y i ≤ 1000000000 := by
 unfold eJ
 split <;> omega
theorem rH (L p : Nat) (i : Int) (y : ay) (W : World) (hp : ag 0 #[.int .i64 i] 2 W p) (_ : p < L) (hE : iK W) (hi : ∀ z ∈ y.chain.ids, ch y z = true) (hn5 : y.nodes.length ≤ 5) (hcf : aB y.chain = 0) (hnd : ∀ i (h : i < y.nodes.length), aG y.nodes[i] = 0 ∧ y.nodes[i].id = (i : Int) + 1) (hnet : bc y.msgs = 0) :
  qA L 120 #[.pointer (some ⟨p, 0, none⟩)] y (eJ y i) (eP y (gB y i)) (ec y (gB y i)) W := by
 intro g lo v3 v4 v5 v6 hL hg hlo hO
 show Calls Tryz.prog 120 #[.pointer (some ⟨g, 0, none⟩), .pointer (some ⟨p, 0, none⟩)] W (fun e W' => nz g lo (eJ y i) (eP y (gB y i)) (ec y (gB y i)) W e W')
 obtain ⟨_, _, _, _, a5, d5, _, _, hq, -, -, RM, -⟩ := aN hO.reads
 simp only [List.cons.injEq, and_true, true_and] at hq
 obtain ⟨-, -, rfl, -⟩ := hq
 have hgl := hg.lt
 have hpn : ¬ (lo ≤ p ∧ p ≠ g) := by omega
 have HG := yh hg
 have HP := yh hp
 have HO := yh hO
 have HRM := yh RM
 have HE := yh hE
 have HI := yh hi
 have HCF := yh hcf
 have HNF := yh hnd
 have HNT := yh hnet
 clear hg hp hO RM hE hi hcf hnd hnet
 go_enter Tryz.func120, Tryz.ntmps120
 go_upto_region 1 with fail
 by_cases h0 : i < 0
 ·
  have hd0 : decide (i < 0) = true := by simpa using h0
  have HC : Hid (eJ y i = 3) := by
   show eJ y i = 3
   exact if_neg (by omega)
  clear h0
  refine wZz (fun w' => Below W.heap.size W w') ((Below.refl _ _).drew) (fun zq => ?_)
  generalize W.drew = wD at zq ⊢
  refine tkJ 0 (v := ?va0) ?ha0 zq ?ra0
  case ha0 =>
   intro wS hSw
   have bP := (uh HP).aj hSw
   have q0 := ag.at bP 0 _ rfl
   simp only [List.getElem_toArray, List.getElem_cons_zero] at q0
   clear bP hSw
   exact fZ
  refine tkH 1 zq ?_
  refine tkH 2 zq ?_
  refine skH 3 zq ?_
  refine skH 4 zq ?_
  refine skH 5 zq ?_
  refine skH 6 zq ?_
  refine skH 7 zq ?_
  refine skH 8 zq ?_
  refine skH 9 zq ?_
  refine tkH 10 zq ?_
  refine dZ ?_
  have HX : Hid (Ext (fun q => lo ≤ q) W wD) := yh (ak zq _)
  clear zq
  go_wp2_with fail
  go_ret2
  unfold nz
  exact ⟨false, by rw [uh HC]; rfl, fun h0 => by rw [uh HC] at h0; simp at h0, (uh HX)⟩
 have hd0 : decide (i < 0) = false := by simpa using h0
 by_cases h1 : (y.msgs.length : Int) ≤ i
 ·
  have hd1 : decide ((y.msgs.length : Int) ≤ i) = true := by simpa using h1
  have HC : Hid (eJ y i = 3) := by
   show eJ y i = 3
   exact if_neg (by omega)
  clear h0 h1
  refine wZz (fun w' => Below W.heap.size W w') ((Below.refl _ _).drew) (fun zq => ?_)
  generalize W.drew = wD at zq ⊢
  refine tkJ 0 (v := ?vb0) ?hb0 zq ?rb0
  case hb0 =>
   intro wS hSw
   have bP := (uh HP).aj hSw
   have q0 := ag.at bP 0 _ rfl
   simp only [List.getElem_toArray, List.getElem_cons_zero] at q0
   clear bP hSw
   exact fZ
  refine tkH 1 zq ?_
  refine tkH 2 zq ?_
  refine tkJ 3 (v := ?vb3) ?hb3 zq ?rb3
  case hb3 =>
   intro wS hSw
   have bP := (uh HP).aj hSw
   have q0 := ag.at bP 0 _ rfl
   simp only [List.getElem_toArray, List.getElem_cons_zero] at q0
   clear bP hSw
   exact fZ
  refine tkH 4 zq ?_
  refine tkH 5 zq ?_
  refine tkH 6 zq ?_
  refine tkJ 7 (v := ?vb7) ?hb7 zq ?rb7
  case hb7 =>
   intro wS hSw
   have bG := (uh HG).aj hSw
   have p5 := ag.at bG 5 _ rfl
   simp only [ga, gb, gc] at p5
   clear bG hSw
   exact fZ
  refine tkH 8 zq ?_
  refine tkH 9 zq ?_
  refine tkH 10 zq ?_
  refine dZ ?_
  have HX : Hid (Ext (fun q => lo ≤ q) W wD) := yh (ak zq _)
  clear zq
  go_wp2_with fail
  go_ret2
  unfold nz
  exact ⟨false, by rw [uh HC]; rfl, fun h0 => by rw [uh HC] at h0; simp at h0, (uh HX)⟩
 have hd1 : decide ((y.msgs.length : Int) ≤ i) = false := by simpa using h1
 have HC : Hid (eJ y i = 0) := by
  show eJ y i = 0
  exact if_pos (by omega)
 refine wZz (fun w' => Below W.heap.size W w') ((Below.refl _ _).drew) (fun zq => ?_)
 generalize W.drew = wD at zq ⊢
 refine tkJ 0 (v := ?vc0) ?hc0 zq ?rc0
 case hc0 =>
  intro wS hSw
  have bP := (uh HP).aj hSw
  have q0 := ag.at bP 0 _ rfl
  simp only [List.getElem_toArray, List.getElem_cons_zero] at q0
  clear bP hSw
  exact fZ
 refine tkH 1 zq ?_
 refine tkH 2 zq ?_
 refine tkJ 3 (v := ?vc3) ?hc3 zq ?rc3
 case hc3 =>
  intro wS hSw
  have bP := (uh HP).aj hSw
  have q0 := ag.at bP 0 _ rfl
  simp only [List.getElem_toArray, List.getElem_cons_zero] at q0
  clear bP hSw
  exact fZ
 refine tkH 4 zq ?_
 refine tkH 5 zq ?_
 refine tkH 6 zq ?_
 refine tkJ 7 (v := ?vc7) ?hc7 zq ?rc7
 case hc7 =>
  intro wS hSw
  have bG := (uh HG).aj hSw
  have p5 := ag.at bG 5 _ rfl
  simp only [ga, gb, gc] at p5
  clear bG hSw
  exact fZ
 refine tkH 8 zq ?_
 refine tkH 9 zq ?_
 refine tkH 10 zq ?_
 refine dZ ?_
 obtain ⟨k, rfl⟩ : ∃ k : Nat, i = (k : Int) := ⟨i.toNat, by omega⟩
 have hk : k < y.msgs.length := by omega
 have hma : gB y (k : Int) = y.msgs[k] := by
  rw [gB]
  simp [List.getD, hk]
 have HMA := yh hma
 have HMF := yh ((cJ (uh HNT)).2 y.msgs[k] (List.getElem_mem hk))
 replace HG := yh ((uh HG).aj zq)
 replace HP := yh ((uh HP).aj zq)
 replace HO := yh ((uh HO).later zq)
 replace HRM := yh ((uh HRM).later zq)
 replace HE := yh ((uh HE).later zq)
 have HX := yh (ak zq (fun q => lo ≤ q))
 clear zq h0 h1 hma hd0 hd1
 generalize wD = WQ at *
 go_upto_region 3 with fail
 obtain ⟨b, off, rfl, -⟩ := ab.aR (uh HRM) (by omega)
 obtain ⟨row, hcl, hr⟩ := ab.bF (uh HRM) hk
 obtain ⟨av, dv, rfl, -⟩ := cE hr
 have c0 : WQ.drew.cell? ⟨b, off + k * 10, none⟩ = some (.int .i64 y.msgs[k].kind) := hcl 0 (by decide)
 have c1 : WQ.drew.cell? ⟨b, off + k * 10 + 1, none⟩ = some (.int .i64 y.msgs[k].ae) := hcl 1 (by decide)
 have c2 : WQ.drew.cell? ⟨b, off + k * 10 + 2, none⟩ = some (.int .i64 y.msgs[k].src) := hcl 2 (by decide)
 have c3 : WQ.drew.cell? ⟨b, off + k * 10 + 3, none⟩ = some (.int .i64 y.msgs[k].dst) := hcl 3 (by decide)
 have c4 : WQ.drew.cell? ⟨b, off + k * 10 + 4, none⟩ = some (.int .i64 y.msgs[k].index) := hcl 4 (by decide)
 have c5 : WQ.drew.cell? ⟨b, off + k * 10 + 5, none⟩ = some (.int .i64 y.msgs[k].write.kind) := hcl 5 (by decide)
 have c6 : WQ.drew.cell? ⟨b, off + k * 10 + 6, none⟩ = some (.int .i64 y.msgs[k].write.id) := hcl 6 (by decide)
 have c7 : WQ.drew.cell? ⟨b, off + k * 10 + 7, none⟩ = some (.slice av y.msgs[k].write.vec.length dv) := hcl 7 (by decide)
 have c8 : WQ.drew.cell? ⟨b, off + k * 10 + 8, none⟩ = some (.int .i64 y.msgs[k].write.aa) := hcl 8 (by decide)
 have c9 : WQ.drew.cell? ⟨b, off + k * 10 + 9, none⟩ = some (.int .i64 y.msgs[k].write.seq) := hcl 9 (by decide)
 have hki : (k : Int) < (y.msgs.length : Int) := by omega
 have hki0 : (0 : Int) ≤ (k : Int) := by omega
 have nd : Below WQ.heap.size WQ WQ.drew := (Below.refl _ _).drew
 have HGW := HG
 have HPW := HP
 have HGD := yh ((uh HG).aj nd)
 have HOD := yh ((uh HO).later nd)
 have HMD := yh (hr.later nd)
 have HED := yh ((uh HE).later nd)
 clear nd hcl hr HG HP HO HRM HE
 refine wZz (fun w' => Ext (fun q => lo ≤ q ∧ q ≠ g) WQ w') ((Ext.refl _ _).drew 1) (fun zq => ?_)
 generalize WQ.drew = wD at zq HGD HOD HMD HED c0 c1 c2 c3 c4 c5 c6 c7 c8 c9 ⊢
 refine tkH 0 zq ?_
 refine tkH 1 zq ?_
 refine tkH 2 zq ?_
 refine tkH 3 zq ?_
 refine tkJ 4 (v := ?vh4) ?hh4 zq ?rh4
 case hh4 =>
  intro wS hSw
  have bG := (uh HGW).ext hSw (fun e => e.2 rfl)
  have p5 := ag.at bG 5 _ rfl
  simp only [ga, gb, gc] at p5
  clear bG hSw
  exact fZ
 refine tkJ 5 (v := ?vh5) ?hh5 zq ?rh5
 case hh5 =>
  intro wS hSw
  have bP := (uh HPW).ext hSw (fun e => hpn e)
  have q0 := ag.at bP 0 _ rfl
  simp only [List.getElem_toArray, List.getElem_cons_zero] at q0
  clear bP hSw
  exact fZ
 refine tkH 6 zq ?_
 refine rdH 7 (fun K hK => ?_)
 go_simp
 try go_wp2_with fail
 refine hK.out _ _ zq (fun zq => ?_)
 clear hK K
 try simp only [Act.put, pz, py, px]
 refine rdH 8 (fun K hK => ?_)
 clear c0 c1 c2 c3 c4 c5 c6 c7 c8 c9
 go_simp
 go_at_call 121
 refine (wJ g lo _ _ _ _ y y.msgs[k] _ _ (uh HGD) hlo (uh HOD) (uh HMD) (uh HED) (uh HI) hn5 (uh HCF) (uh HNF) (uh HMF)).mono ?_
 rintro e u hp
 unfold dB at hp
 obtain ⟨rfl, hz, hx⟩ := hp
 try go_wp2_with fail
 refine hK.out _ _ (zq.trans hx) (fun zq => ?_)
 clear hK K
 try simp only [Act.put, pz, py, px]
 refine tkH 9 zq ?_
 refine tkH 10 zq ?_
 refine dZ ?_
 have HZ := yh hz
 have HX9 := yh ((uh HX).trans (zq.mono (fun q _ h => h.1)))
 clear zq hz hx
 go_wp2_with fail
 go_ret2
 unfold nz
 rw [uh HMA]
 exact ⟨_, by rw [uh HC]; rfl, fun _ => ⟨rfl, uh HZ⟩, uh HX9⟩
end Go.Proofs.YtomphbenbnnfgaaGreatDoor
