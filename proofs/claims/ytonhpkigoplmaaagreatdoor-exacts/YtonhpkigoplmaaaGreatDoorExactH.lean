/-
  enclose.Exact of floats; plain.Exact.
-/
import Derived.Test.YtonhpkigoplmaaaGreatDoorExactG
import Derived.Test.YtonhpkigoplmaaaGreatDoorFltC
namespace Go.Proofs.YtonhpkigoplmaaaGreatDoor
open Go.RowKit Go.Extern Ieee
attribute [local go_sem] run_store_float

set_option maxHeartbeats 400000 in
theorem exact_float64 (A : Nat → Addr) (b : Nat) (w : World) (hb : b < 18446744073709551616) (hS : Sents A w) :
    Calls Tryz.prog 75 #[.float .f64 b] w fun e w' => MakeR A b b w e w' := by
  have HB : Hid (b < 18446744073709551616) := hb
  have HS : Hid (Sents A w) := hS
  clear hb hS
  go_enter Tryz.func75, Tryz.ntmps75
  go_wp2_with fail
  refine (halves_float64 _).mono ?_
  rintro e w' ⟨rfl, rfl⟩
  go_wp2_with fail
  refine (make_any A b b _ HB.out HB.out (HS.out.alloc _)).mono ?_
  rintro e w1 ⟨rfl, hb1⟩
  have B0 := blk_below (blk_new w _) hb1
  obtain ⟨k0, k1, k2, k3⟩ := blk2 B0
  have HB1 : Hid (Below w.heap.size w w1) := ((Below.refl _ _).alloc (Nat.le_refl _) _).trans (hb1.mono (by simp))
  clear hb1 B0 HS
  go_wp2
  refine bodyPost_ret (v := .tuple #[.agg #[.float .f64 (makeN b b).1, .float .f64 (makeN b b).2.1], errV A (makeN b b).2.2]) (by simp [results, Tryz.results75, go_sem, k0, k1]) rfl ?_
  exact ⟨rfl, (HB1.out.setCell (by simp) _).setCell (by simp) _⟩

set_option maxHeartbeats 400000 in
theorem exact_real (A : Nat → Addr) (b : Nat) (w : World) (hb : b < 18446744073709551616) (hS : Sents A w) :
    Calls Tryz.prog 77 #[.float .f64 b] w fun e w' => MakeR A b b w e w' := by
  have HB : Hid (b < 18446744073709551616) := hb
  have HS : Hid (Sents A w) := hS
  clear hb hS
  go_enter Tryz.func77, Tryz.ntmps77
  go_wp2_with fail
  refine (halves_real _).mono ?_
  rintro e w' ⟨rfl, rfl⟩
  go_wp2_with fail
  refine (make_any A b b _ HB.out HB.out (HS.out.alloc _)).mono ?_
  rintro e w1 ⟨rfl, hb1⟩
  have B0 := blk_below (blk_new w _) hb1
  obtain ⟨k0, k1, k2, k3⟩ := blk2 B0
  have HB1 : Hid (Below w.heap.size w w1) := ((Below.refl _ _).alloc (Nat.le_refl _) _).trans (hb1.mono (by simp))
  clear hb1 B0 HS
  go_wp2
  refine bodyPost_ret (v := .tuple #[.agg #[.float .f64 (makeN b b).1, .float .f64 (makeN b b).2.1], errV A (makeN b b).2.2]) (by simp [results, Tryz.results77, go_sem, k0, k1]) rfl ?_
  exact ⟨rfl, (HB1.out.setCell (by simp) _).setCell (by simp) _⟩
end Go.Proofs.YtonhpkigoplmaaaGreatDoor
