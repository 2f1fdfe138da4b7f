/-
  enclose.sum.
-/
import Derived.Test.YtonhpkigoplmaaaGreatDoorFltE
import Derived.Laws.FloatArith
namespace Go.Proofs.YtonhpkigoplmaaaGreatDoor
open Go.RowKit Go.Extern Ieee
attribute [local go_sem] run_store_float

theorem sumF_any (x y near taken t1 t2 t3 q lo hi : Nat) (w : World) (h1 : double.add x y = some near) (h2 : double.sub near x = some taken) (h3 : double.sub near taken = some t1) (h4 : double.sub x t1 = some t2) (h5 : double.sub y taken = some t3) (h6 : double.add t2 t3 = some q)
    (hA : ∀ w, Calls Tryz.prog 141 #[.float .f64 near, .float .f64 q] w fun e w' => e = .returned (.agg #[.float .f64 lo, .float .f64 hi]) ∧ Below w.heap.size w w') :
    Calls Tryz.prog 89 #[.float .f64 x, .float .f64 y] w fun e w' => e = .returned (.agg #[.float .f64 lo, .float .f64 hi]) ∧ Below w.heap.size w w' := by
  have g1 : ∀ w, (binOp .add 65 (.float .f64 x) (.float .f64 y)).run Tryz.prog w = .ok (.float .f64 near) w := fun w => run_float_arith w .add _ .f64 x y near h1
  have g2 : ∀ w, (binOp .sub 65 (.float .f64 near) (.float .f64 x)).run Tryz.prog w = .ok (.float .f64 taken) w := fun w => run_float_arith w .sub _ .f64 near x taken h2
  have g3 : ∀ w, (binOp .sub 65 (.float .f64 near) (.float .f64 taken)).run Tryz.prog w = .ok (.float .f64 t1) w := fun w => run_float_arith w .sub _ .f64 near taken t1 h3
  have g4 : ∀ w, (binOp .sub 65 (.float .f64 x) (.float .f64 t1)).run Tryz.prog w = .ok (.float .f64 t2) w := fun w => run_float_arith w .sub _ .f64 x t1 t2 h4
  have g5 : ∀ w, (binOp .sub 65 (.float .f64 y) (.float .f64 taken)).run Tryz.prog w = .ok (.float .f64 t3) w := fun w => run_float_arith w .sub _ .f64 y taken t3 h5
  have g6 : ∀ w, (binOp .add 65 (.float .f64 t2) (.float .f64 t3)).run Tryz.prog w = .ok (.float .f64 q) w := fun w => run_float_arith w .add _ .f64 t2 t3 q h6
  have HA : Hid (∀ w, Calls Tryz.prog 141 #[.float .f64 near, .float .f64 q] w fun e w' => e = .returned (.agg #[.float .f64 lo, .float .f64 hi]) ∧ Below w.heap.size w w') := hA
  clear h1 h2 h3 h4 h5 h6 hA
  go_enter Tryz.func89, Tryz.ntmps89
  go_wp2_with fail
  refine Calls.mono (HA.out _) ?_
  rintro e w1 ⟨rfl, hb1⟩
  have B0 := blk_below (blk_new w _) hb1
  obtain ⟨k0, k1, k2, k3⟩ := blk2 B0
  have HB1 : Hid (Below w.heap.size w w1) := ((Below.refl _ _).alloc (Nat.le_refl _) _).trans (hb1.mono (by simp))
  clear hb1 B0 HA
  go_wp2
  refine bodyPost_ret (v := .agg #[.float .f64 lo, .float .f64 hi]) (by simp [results, Tryz.results89, go_sem, k0, k1]) rfl ?_
  exact ⟨rfl, (HB1.out.setCell (by simp) _).setCell (by simp) _⟩
end Go.Proofs.YtonhpkigoplmaaaGreatDoor
