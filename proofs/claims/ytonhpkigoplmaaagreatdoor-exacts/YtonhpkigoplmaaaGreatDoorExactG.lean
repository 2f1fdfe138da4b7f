/-
  enclose.Exact, of six types.
-/
import Derived.Test.YtonhpkigoplmaaaGreatDoorExactF
namespace Go.Proofs.YtonhpkigoplmaaaGreatDoor
open Go.RowKit Go.Extern Ieee
attribute [local go_sem] run_store_float

theorem halves_int (w : World) : Calls Tryz.prog 127 #[] w fun e w' => e = .returned (.bool false) ∧ w' = w := by
  go_enter Tryz.func127, Tryz.ntmps127
  go_wp2
  go_ret
  exact ⟨rfl, rfl⟩

theorem halves_int32 (w : World) : Calls Tryz.prog 129 #[] w fun e w' => e = .returned (.bool false) ∧ w' = w := by
  go_enter Tryz.func129, Tryz.ntmps129
  go_wp2
  go_ret
  exact ⟨rfl, rfl⟩

theorem halves_int64 (w : World) : Calls Tryz.prog 130 #[] w fun e w' => e = .returned (.bool false) ∧ w' = w := by
  go_enter Tryz.func130, Tryz.ntmps130
  go_wp2
  go_ret
  exact ⟨rfl, rfl⟩

theorem halves_small (w : World) : Calls Tryz.prog 132 #[] w fun e w' => e = .returned (.bool false) ∧ w' = w := by
  go_enter Tryz.func132, Tryz.ntmps132
  go_wp2
  go_ret
  exact ⟨rfl, rfl⟩

theorem one_f : floatOfInt FloatKind.f64 1 = 4607182418800017408 := by kernel_rfl
theorem half_f : floatBits .quo .f64 4607182418800017408 4611686018427387904 = some 4602678819172646912 := by kernel_rfl
theorem half_ne : (FloatKind.f64.format.order 4602678819172646912 0 != some Ordering.eq) = true := by kernel_rfl

theorem halves_float64 (w : World) : Calls Tryz.prog 131 #[] w fun e w' => e = .returned (.bool true) ∧ w' = w := by
  have g : ∀ w, (binOp .quo 65 (.float .f64 4607182418800017408) (.float .f64 4611686018427387904)).run Tryz.prog w = .ok (.float .f64 4602678819172646912) w := fun w => run_float_arith w .quo _ .f64 _ _ _ half_f
  have o := one_f
  have hn := half_ne
  go_enter Tryz.func131, Tryz.ntmps131
  go_wp2
  go_ret
  exact ⟨rfl, rfl⟩

theorem halves_real (w : World) : Calls Tryz.prog 133 #[] w fun e w' => e = .returned (.bool true) ∧ w' = w := by
  have g : ∀ w, (binOp .quo 117 (.float .f64 4607182418800017408) (.float .f64 4611686018427387904)).run Tryz.prog w = .ok (.float .f64 4602678819172646912) w := fun w => run_float_arith w .quo _ .f64 _ _ _ half_f
  have o := one_f
  have hn := half_ne
  go_enter Tryz.func133, Tryz.ntmps133
  go_wp2
  go_ret
  exact ⟨rfl, rfl⟩


theorem exact_int (x : Int) (w : World) (h1 : -9223372036854775808 ≤ x) (h2 : x < 9223372036854775808) :
    Calls Tryz.prog 72 #[.int .i64 x] w fun e w' => e = .returned (.tuple #[.agg #[.float .f64 (wholeLo x), .float .f64 (wholeHi x)], .nilIface]) ∧ Below w.heap.size w w' := by
  have HA : Hid (∀ w, Calls Tryz.prog 128 #[.int .i64 x] w fun e w' => e = .returned (.agg #[.float .f64 (wholeLo x), .float .f64 (wholeHi x)]) ∧ Below w.heap.size w w') := fun w => aroundWhole_any x w h1 h2
  have hw : wrap64 x = x := by unfold wrap64; omega
  clear h1 h2
  go_enter Tryz.func72, Tryz.ntmps72
  go_wp2_with fail
  refine (halves_int _).mono ?_
  rintro e w' ⟨rfl, rfl⟩
  go_wp2_with fail
  refine Calls.mono (HA.out _) ?_
  rintro e w1 ⟨rfl, hb1⟩
  have B0 := blk_below (blk_new w _) hb1
  obtain ⟨k0, k1, k2, k3⟩ := blk2 B0
  have HB1 : Hid (Below w.heap.size w w1) := ((Below.refl _ _).alloc (Nat.le_refl _) _).trans (hb1.mono (by simp))
  have HB0 : Hid (w1.heap[w.heap.size]? = _) := B0
  clear hb1 B0 HA
  go_wp2
  refine bodyPost_ret (v := .tuple #[.agg #[.float .f64 (wholeLo x), .float .f64 (wholeHi x)], .nilIface]) (by simp [results, Tryz.results72, go_sem, k0, k1]) rfl ?_
  exact ⟨rfl, (HB1.out.setCell (by simp) _).setCell (by simp) _⟩

theorem exact_int32 (x : Int) (w : World) (h1 : -9223372036854775808 ≤ x) (h2 : x < 9223372036854775808) :
    Calls Tryz.prog 73 #[.int .i32 x] w fun e w' => e = .returned (.tuple #[.agg #[.float .f64 (wholeLo x), .float .f64 (wholeHi x)], .nilIface]) ∧ Below w.heap.size w w' := by
  have HA : Hid (∀ w, Calls Tryz.prog 128 #[.int .i64 x] w fun e w' => e = .returned (.agg #[.float .f64 (wholeLo x), .float .f64 (wholeHi x)]) ∧ Below w.heap.size w w') := fun w => aroundWhole_any x w h1 h2
  have hw : wrap64 x = x := by unfold wrap64; omega
  clear h1 h2
  go_enter Tryz.func73, Tryz.ntmps73
  go_wp2_with fail
  refine (halves_int32 _).mono ?_
  rintro e w' ⟨rfl, rfl⟩
  go_wp2_with fail
  refine Calls.mono (HA.out _) ?_
  rintro e w1 ⟨rfl, hb1⟩
  have B0 := blk_below (blk_new w _) hb1
  obtain ⟨k0, k1, k2, k3⟩ := blk2 B0
  have HB1 : Hid (Below w.heap.size w w1) := ((Below.refl _ _).alloc (Nat.le_refl _) _).trans (hb1.mono (by simp))
  have HB0 : Hid (w1.heap[w.heap.size]? = _) := B0
  clear hb1 B0 HA
  go_wp2
  refine bodyPost_ret (v := .tuple #[.agg #[.float .f64 (wholeLo x), .float .f64 (wholeHi x)], .nilIface]) (by simp [results, Tryz.results73, go_sem, k0, k1]) rfl ?_
  exact ⟨rfl, (HB1.out.setCell (by simp) _).setCell (by simp) _⟩

theorem exact_int64 (x : Int) (w : World) (h1 : -9223372036854775808 ≤ x) (h2 : x < 9223372036854775808) :
    Calls Tryz.prog 74 #[.int .i64 x] w fun e w' => e = .returned (.tuple #[.agg #[.float .f64 (wholeLo x), .float .f64 (wholeHi x)], .nilIface]) ∧ Below w.heap.size w w' := by
  have HA : Hid (∀ w, Calls Tryz.prog 128 #[.int .i64 x] w fun e w' => e = .returned (.agg #[.float .f64 (wholeLo x), .float .f64 (wholeHi x)]) ∧ Below w.heap.size w w') := fun w => aroundWhole_any x w h1 h2
  have hw : wrap64 x = x := by unfold wrap64; omega
  clear h1 h2
  go_enter Tryz.func74, Tryz.ntmps74
  go_wp2_with fail
  refine (halves_int64 _).mono ?_
  rintro e w' ⟨rfl, rfl⟩
  go_wp2_with fail
  refine Calls.mono (HA.out _) ?_
  rintro e w1 ⟨rfl, hb1⟩
  have B0 := blk_below (blk_new w _) hb1
  obtain ⟨k0, k1, k2, k3⟩ := blk2 B0
  have HB1 : Hid (Below w.heap.size w w1) := ((Below.refl _ _).alloc (Nat.le_refl _) _).trans (hb1.mono (by simp))
  have HB0 : Hid (w1.heap[w.heap.size]? = _) := B0
  clear hb1 B0 HA
  go_wp2
  refine bodyPost_ret (v := .tuple #[.agg #[.float .f64 (wholeLo x), .float .f64 (wholeHi x)], .nilIface]) (by simp [results, Tryz.results74, go_sem, k0, k1]) rfl ?_
  exact ⟨rfl, (HB1.out.setCell (by simp) _).setCell (by simp) _⟩

theorem exact_small (x : Int) (w : World) (h1 : -9223372036854775808 ≤ x) (h2 : x < 9223372036854775808) :
    Calls Tryz.prog 76 #[.int .i32 x] w fun e w' => e = .returned (.tuple #[.agg #[.float .f64 (wholeLo x), .float .f64 (wholeHi x)], .nilIface]) ∧ Below w.heap.size w w' := by
  have HA : Hid (∀ w, Calls Tryz.prog 128 #[.int .i64 x] w fun e w' => e = .returned (.agg #[.float .f64 (wholeLo x), .float .f64 (wholeHi x)]) ∧ Below w.heap.size w w') := fun w => aroundWhole_any x w h1 h2
  have hw : wrap64 x = x := by unfold wrap64; omega
  clear h1 h2
  go_enter Tryz.func76, Tryz.ntmps76
  go_wp2_with fail
  refine (halves_small _).mono ?_
  rintro e w' ⟨rfl, rfl⟩
  go_wp2_with fail
  refine Calls.mono (HA.out _) ?_
  rintro e w1 ⟨rfl, hb1⟩
  have B0 := blk_below (blk_new w _) hb1
  obtain ⟨k0, k1, k2, k3⟩ := blk2 B0
  have HB1 : Hid (Below w.heap.size w w1) := ((Below.refl _ _).alloc (Nat.le_refl _) _).trans (hb1.mono (by simp))
  have HB0 : Hid (w1.heap[w.heap.size]? = _) := B0
  clear hb1 B0 HA
  go_wp2
  refine bodyPost_ret (v := .tuple #[.agg #[.float .f64 (wholeLo x), .float .f64 (wholeHi x)], .nilIface]) (by simp [results, Tryz.results76, go_sem, k0, k1]) rfl ?_
  exact ⟨rfl, (HB1.out.setCell (by simp) _).setCell (by simp) _⟩
end Go.Proofs.YtonhpkigoplmaaaGreatDoor
