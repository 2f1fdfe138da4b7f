/-
  enclose.around.
-/
import Derived.Test.YtonhpkigoplmaaaGreatDoorFltD
namespace Go.Proofs.YtonhpkigoplmaaaGreatDoor
open Go.RowKit Go.Extern Ieee
attribute [local go_sem] run_store_float

theorem aroundF_eq (b q : Nat) (w : World) (hq : FloatKind.f64.format.order q 0 = some .eq) :
    Calls Tryz.prog 141 #[.float .f64 b, .float .f64 q] w fun e w' => e = .returned (.agg #[.float .f64 b, .float .f64 b]) ∧ Below w.heap.size w w' := by
  go_enter Tryz.func141, Tryz.ntmps141
  go_wp2
  refine bodyPost_ret (v := .agg #[.float .f64 b, .float .f64 b]) (by simp [results, Tryz.results141, go_sem]) rfl ?_
  exact ⟨rfl, (Below.refl _ _).alloc (Nat.le_refl _) _⟩

theorem aroundF_pos (s : Bool) (r q : Nat) (w : World) (hq : FloatKind.f64.format.order q 0 = some .gt) (h : r < 9218868437227405312) (h0 : 0 < r) :
    Calls Tryz.prog 141 #[.float .f64 (wd s r), .float .f64 q] w fun e w' => e = .returned (.agg #[.float .f64 (wd s r), .float .f64 (wd s (if s = true then r - 1 else r + 1))]) ∧ Below w.heap.size w w' := by
  have HN : Hid (∀ w, Calls Tryz.prog 172 #[.float .f64 (wd s r), .float .f64 9218868437227405312] w fun e w' => e = .returned (.float .f64 (wd s (if s = true then r - 1 else r + 1))) ∧ w' = w) := fun w => next_any s true r _ w h h0 rfl
  generalize wd s (if s = true then r - 1 else r + 1) = c at *
  generalize wd s r = b at *
  go_enter Tryz.func141, Tryz.ntmps141
  go_wp2_with fail
  refine (inf_up _).mono ?_
  rintro e w' ⟨rfl, rfl⟩
  go_wp2_with fail
  refine Calls.mono (HN.out _) ?_
  rintro e w' ⟨rfl, rfl⟩
  go_wp2
  refine bodyPost_ret (v := .agg #[.float .f64 b, .float .f64 c]) (by simp [results, Tryz.results141, go_sem]) rfl ?_
  exact ⟨rfl, by (repeat refine Below.setCell ?_ (by simp) _); exact (Below.refl _ _).alloc (Nat.le_refl _) _⟩

theorem aroundF_neg (s : Bool) (r q : Nat) (w : World) (hq : FloatKind.f64.format.order q 0 = some .lt) (h : r < 9218868437227405312) (h0 : 0 < r) :
    Calls Tryz.prog 141 #[.float .f64 (wd s r), .float .f64 q] w fun e w' => e = .returned (.agg #[.float .f64 (wd s (if s = false then r - 1 else r + 1)), .float .f64 (wd s r)]) ∧ Below w.heap.size w w' := by
  have HN : Hid (∀ w, Calls Tryz.prog 172 #[.float .f64 (wd s r), .float .f64 18442240474082181120] w fun e w' => e = .returned (.float .f64 (wd s (if s = false then r - 1 else r + 1))) ∧ w' = w) := fun w => next_any s false r _ w h h0 rfl
  generalize wd s (if s = false then r - 1 else r + 1) = c at *
  generalize wd s r = b at *
  go_enter Tryz.func141, Tryz.ntmps141
  go_wp2_with fail
  refine (inf_down _).mono ?_
  rintro e w' ⟨rfl, rfl⟩
  go_wp2_with fail
  refine Calls.mono (HN.out _) ?_
  rintro e w' ⟨rfl, rfl⟩
  go_wp2
  refine bodyPost_ret (v := .agg #[.float .f64 c, .float .f64 b]) (by simp [results, Tryz.results141, go_sem]) rfl ?_
  exact ⟨rfl, by (repeat refine Below.setCell ?_ (by simp) _); exact (Below.refl _ _).alloc (Nat.le_refl _) _⟩
end Go.Proofs.YtonhpkigoplmaaaGreatDoor
