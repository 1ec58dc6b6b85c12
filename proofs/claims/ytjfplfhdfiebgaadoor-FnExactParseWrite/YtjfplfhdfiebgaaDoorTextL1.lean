/-
  A vector's text by the model: l1Text writes what VecText of the program writes.
  No condition.
-/
import Derived.Test.YtjfplfhdfiebgaaDoorTextPlain
namespace Go.Proofs.YtjfplfhdfiebgaaDoor
open Go.RowKit

set_option maxRecDepth 100000 in
set_option maxHeartbeats 2000000 in
theorem l1Text3 (b off cap : Nat) (x y z : Int) (w : World) (c0 : w.cell? ⟨b, off, none⟩ = some (.int .i64 x)) (c1 : w.cell? ⟨b, off + 1, none⟩ = some (.int .i64 y)) (c2 : w.cell? ⟨b, off + 2, none⟩ = some (.int .i64 z))
    (hx : -1000 ≤ x ∧ x ≤ 1000) (hy : -1000 ≤ y ∧ y ≤ 1000) (hz : -1000 ≤ z ∧ z ≤ 1000) :
    Calls Tryd.prog 35 #[.slice (some ⟨b, off, none⟩) 3 cap] w fun e w' => e = .returned (str (text3 x y z)) ∧ Below w.heap.size w w' := by
  have D0 := hide fun W => digits x W (by omega) (by omega)
  have D1 := hide fun W => digits y W (by omega) (by omega)
  have D2 := hide fun W => digits z W (by omega) (by omega)
  have HT : Hid (text3 x y z = dec x ++ 44 :: (dec y ++ 44 :: dec z)) := rfl
  have l0 := dec_len x
  have l1 := dec_len y
  have l2 := dec_len z
  simp only [str] at D0 D1 D2
  rw [HT.out]
  clear HT
  generalize dec x = a at *
  generalize dec y = d at *
  generalize dec z = f at *
  have s0 : ∀ W : World, (Op.stringOp .add ⟨#[]⟩ ⟨a.toArray⟩).run Tryd.prog W = .ok (.string ⟨a.toArray⟩) W := fun W => (run_string_add_sum W _ _ (by simp [ByteArray.size]; omega)).trans (by rw [show (⟨#[]⟩ : ByteArray) = ⟨([] : Bytes).toArray⟩ from rfl, str_app]; rfl)
  have s1 : ∀ W : World, (Op.stringOp .add ⟨a.toArray⟩ ⟨#[44]⟩).run Tryd.prog W = .ok (.string ⟨(a ++ [44]).toArray⟩) W := fun W => (run_string_add_sum W _ _ (by simp [ByteArray.size]; omega)).trans (by rw [show (⟨#[44]⟩ : ByteArray) = ⟨([44] : Bytes).toArray⟩ from rfl, str_app])
  have s2 : ∀ W : World, (Op.stringOp .add ⟨(a ++ [44]).toArray⟩ ⟨d.toArray⟩).run Tryd.prog W = .ok (.string ⟨(a ++ [44] ++ d).toArray⟩) W := fun W => (run_string_add_sum W _ _ (by simp [ByteArray.size]; omega)).trans (by rw [str_app])
  have s3 : ∀ W : World, (Op.stringOp .add ⟨(a ++ [44] ++ d).toArray⟩ ⟨#[44]⟩).run Tryd.prog W = .ok (.string ⟨(a ++ [44] ++ d ++ [44]).toArray⟩) W := fun W => (run_string_add_sum W _ _ (by simp [ByteArray.size]; omega)).trans (by rw [show (⟨#[44]⟩ : ByteArray) = ⟨([44] : Bytes).toArray⟩ from rfl, str_app])
  have s4 : ∀ W : World, (Op.stringOp .add ⟨(a ++ [44] ++ d ++ [44]).toArray⟩ ⟨f.toArray⟩).run Tryd.prog W = .ok (.string ⟨(a ++ [44] ++ d ++ [44] ++ f).toArray⟩) W := fun W => (run_string_add_sum W _ _ (by simp [ByteArray.size]; omega)).trans (by rw [str_app])
  have HE : Hid (a ++ [44] ++ d ++ [44] ++ f = a ++ 44 :: (d ++ 44 :: f)) := by simp [Hid]
  rw [← HE.out]
  clear HE
  generalize hp : a ++ [44] = p at *
  generalize hq : p ++ d = q at *
  generalize hr : q ++ [44] = r at *
  generalize ht : r ++ f = t at *
  clear hp hq hr ht
  simp only [str]
  go_enter Tryd.func35, Tryd.ntmps35
  go_wp2_with fail
  refine wp_loop_rounds 4 ?_
  rw [rounds_succ]
  go_wp2_with fail
  refine (unhide D0 _).mono ?_
  rintro e w1 ⟨rfl, hb1⟩
  have d1 := cell_keep hb1 c1
  have d2 := cell_keep hb1 c2
  have HB := hide hb1
  clear hb1
  go_wp2_with fail
  rw [rounds_succ]
  go_wp2_with fail
  refine (unhide D1 _).mono ?_
  rintro e w2 ⟨rfl, hb1⟩
  have e2 := cell_keep hb1 d2
  have HB2 := hide (below_keep (unhide HB) hb1)
  clear hb1 HB
  go_wp2_with fail
  rw [rounds_succ]
  go_wp2_with fail
  refine (unhide D2 _).mono ?_
  rintro e w3 ⟨rfl, hb1⟩
  have HB := hide (below_keep (unhide HB2) hb1)
  clear hb1 HB2
  go_wp2_with fail
  rw [rounds_succ]
  go_wp2_with fail
  go_ret
  exact ⟨rfl, unhide HB⟩

end Go.Proofs.YtjfplfhdfiebgaaDoor
