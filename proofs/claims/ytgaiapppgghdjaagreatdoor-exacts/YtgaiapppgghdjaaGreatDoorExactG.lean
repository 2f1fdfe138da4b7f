/-
  enclose.Exact, of six types.
-/
import Derived.Test.YtgaiapppgghdjaaGreatDoorExactF
namespace Go.Proofs.YtgaiapppgghdjaaGreatDoor
open Go.RowKit Go.Extern Ieee
attribute [local go_sem] run_store_float

theorem halves_int (w : World) : Calls Tryz.prog 115 #[] w fun e w' => e = .returned (.bool false) ∧ w' = w := by
  go_enter Tryz.func115, Tryz.ntmps115
  go_wp2
  go_ret
  exact ⟨rfl, rfl⟩

theorem halves_int32 (w : World) : Calls Tryz.prog 117 #[] w fun e w' => e = .returned (.bool false) ∧ w' = w := by
  go_enter Tryz.func117, Tryz.ntmps117
  go_wp2
  go_ret
  exact ⟨rfl, rfl⟩

theorem halves_int64 (w : World) : Calls Tryz.prog 118 #[] w fun e w' => e = .returned (.bool false) ∧ w' = w := by
  go_enter Tryz.func118, Tryz.ntmps118
  go_wp2
  go_ret
  exact ⟨rfl, rfl⟩

theorem halves_small (w : World) : Calls Tryz.prog 120 #[] w fun e w' => e = .returned (.bool false) ∧ w' = w := by
  go_enter Tryz.func120, Tryz.ntmps120
  go_wp2
  go_ret
  exact ⟨rfl, rfl⟩

theorem one_f : floatOfInt FloatKind.f64 1 = 4607182418800017408 := by kernel_rfl
theorem half_f : floatBits .quo .f64 4607182418800017408 4611686018427387904 = some 4602678819172646912 := by kernel_rfl
theorem half_ne : (FloatKind.f64.format.order 4602678819172646912 0 != some Ordering.eq) = true := by kernel_rfl

theorem halves_float64 (w : World) : Calls Tryz.prog 119 #[] w fun e w' => e = .returned (.bool true) ∧ w' = w := by
  have g : ∀ w, (binOp .quo 63 (.float .f64 4607182418800017408) (.float .f64 4611686018427387904)).run Tryz.prog w = .ok (.float .f64 4602678819172646912) w := fun w => run_float_arith w .quo _ .f64 _ _ _ half_f
  have o := one_f
  have hn := half_ne
  go_enter Tryz.func119, Tryz.ntmps119
  go_wp2
  go_ret
  exact ⟨rfl, rfl⟩

theorem halves_real (w : World) : Calls Tryz.prog 121 #[] w fun e w' => e = .returned (.bool true) ∧ w' = w := by
  have g : ∀ w, (binOp .quo 111 (.float .f64 4607182418800017408) (.float .f64 4611686018427387904)).run Tryz.prog w = .ok (.float .f64 4602678819172646912) w := fun w => run_float_arith w .quo _ .f64 _ _ _ half_f
  have o := one_f
  have hn := half_ne
  go_enter Tryz.func121, Tryz.ntmps121
  go_wp2
  go_ret
  exact ⟨rfl, rfl⟩


theorem exact_int (x : Int) (w : World) (h1 : -9223372036854775808 ≤ x) (h2 : x < 9223372036854775808) :
    Calls Tryz.prog 66 #[.int .i64 x] w fun e w' => e = .returned (.tuple #[.agg #[.float .f64 (wholeLo x), .float .f64 (wholeHi x)], .nilIface]) ∧ Below w.heap.size w w' := by
  have HA : Hid (∀ w, Calls Tryz.prog 116 #[.int .i64 x] w fun e w' => e = .returned (.agg #[.float .f64 (wholeLo x), .float .f64 (wholeHi x)]) ∧ Below w.heap.size w w') := fun w => aroundWhole_any x w h1 h2
  have hw : wrap64 x = x := by unfold wrap64; omega
  clear h1 h2
  go_enter Tryz.func66, Tryz.ntmps66
  go_wp2_with fail
  refine (halves_int _).mono ?_
  rintro e w' ⟨rfl, rfl⟩
  go_wp2_with fail
  refine Calls.mono (HA.out _) ?_
  rintro e w1 ⟨rfl, hb1⟩
  have B0 := blk_below (blk_new w _) hb1
  obtain ⟨k0, k1, k2, k3⟩ := blk2 B0
  have HB1 : Hid (Below w.heap.size w w1) := ((Below.refl _ _).alloc (Nat.le_refl _) _).trans (hb1.mono (by simp))
  have HB0 : Hid (w1.heap[w.heap.size]? = _) := B0
  clear hb1 B0 HA
  go_wp2
  refine bodyPost_ret (v := .tuple #[.agg #[.float .f64 (wholeLo x), .float .f64 (wholeHi x)], .nilIface]) (by simp [results, Tryz.results66, go_sem, k0, k1]) rfl ?_
  exact ⟨rfl, (HB1.out.setCell (by simp) _).setCell (by simp) _⟩

theorem exact_int32 (x : Int) (w : World) (h1 : -9223372036854775808 ≤ x) (h2 : x < 9223372036854775808) :
    Calls Tryz.prog 67 #[.int .i32 x] w fun e w' => e = .returned (.tuple #[.agg #[.float .f64 (wholeLo x), .float .f64 (wholeHi x)], .nilIface]) ∧ Below w.heap.size w w' := by
  have HA : Hid (∀ w, Calls Tryz.prog 116 #[.int .i64 x] w fun e w' => e = .returned (.agg #[.float .f64 (wholeLo x), .float .f64 (wholeHi x)]) ∧ Below w.heap.size w w') := fun w => aroundWhole_any x w h1 h2
  have hw : wrap64 x = x := by unfold wrap64; omega
  clear h1 h2
  go_enter Tryz.func67, Tryz.ntmps67
  go_wp2_with fail
  refine (halves_int32 _).mono ?_
  rintro e w' ⟨rfl, rfl⟩
  go_wp2_with fail
  refine Calls.mono (HA.out _) ?_
  rintro e w1 ⟨rfl, hb1⟩
  have B0 := blk_below (blk_new w _) hb1
  obtain ⟨k0, k1, k2, k3⟩ := blk2 B0
  have HB1 : Hid (Below w.heap.size w w1) := ((Below.refl _ _).alloc (Nat.le_refl _) _).trans (hb1.mono (by simp))
  have HB0 : Hid (w1.heap[w.heap.size]? = _) := B0
  clear hb1 B0 HA
  go_wp2
  refine bodyPost_ret (v := .tuple #[.agg #[.float .f64 (wholeLo x), .float .f64 (wholeHi x)], .nilIface]) (by simp [results, Tryz.results67, go_sem, k0, k1]) rfl ?_
  exact ⟨rfl, (HB1.out.setCell (by simp) _).setCell (by simp) _⟩

theorem exact_int64 (x : Int) (w : World) (h1 : -9223372036854775808 ≤ x) (h2 : x < 9223372036854775808) :
    Calls Tryz.prog 68 #[.int .i64 x] w fun e w' => e = .returned (.tuple #[.agg #[.float .f64 (wholeLo x), .float .f64 (wholeHi x)], .nilIface]) ∧ Below w.heap.size w w' := by
  have HA : Hid (∀ w, Calls Tryz.prog 116 #[.int .i64 x] w fun e w' => e = .returned (.agg #[.float .f64 (wholeLo x), .float .f64 (wholeHi x)]) ∧ Below w.heap.size w w') := fun w => aroundWhole_any x w h1 h2
  have hw : wrap64 x = x := by unfold wrap64; omega
  clear h1 h2
  go_enter Tryz.func68, Tryz.ntmps68
  go_wp2_with fail
  refine (halves_int64 _).mono ?_
  rintro e w' ⟨rfl, rfl⟩
  go_wp2_with fail
  refine Calls.mono (HA.out _) ?_
  rintro e w1 ⟨rfl, hb1⟩
  have B0 := blk_below (blk_new w _) hb1
  obtain ⟨k0, k1, k2, k3⟩ := blk2 B0
  have HB1 : Hid (Below w.heap.size w w1) := ((Below.refl _ _).alloc (Nat.le_refl _) _).trans (hb1.mono (by simp))
  have HB0 : Hid (w1.heap[w.heap.size]? = _) := B0
  clear hb1 B0 HA
  go_wp2
  refine bodyPost_ret (v := .tuple #[.agg #[.float .f64 (wholeLo x), .float .f64 (wholeHi x)], .nilIface]) (by simp [results, Tryz.results68, go_sem, k0, k1]) rfl ?_
  exact ⟨rfl, (HB1.out.setCell (by simp) _).setCell (by simp) _⟩

theorem exact_small (x : Int) (w : World) (h1 : -9223372036854775808 ≤ x) (h2 : x < 9223372036854775808) :
    Calls Tryz.prog 70 #[.int .i32 x] w fun e w' => e = .returned (.tuple #[.agg #[.float .f64 (wholeLo x), .float .f64 (wholeHi x)], .nilIface]) ∧ Below w.heap.size w w' := by
  have HA : Hid (∀ w, Calls Tryz.prog 116 #[.int .i64 x] w fun e w' => e = .returned (.agg #[.float .f64 (wholeLo x), .float .f64 (wholeHi x)]) ∧ Below w.heap.size w w') := fun w => aroundWhole_any x w h1 h2
  have hw : wrap64 x = x := by unfold wrap64; omega
  clear h1 h2
  go_enter Tryz.func70, Tryz.ntmps70
  go_wp2_with fail
  refine (halves_small _).mono ?_
  rintro e w' ⟨rfl, rfl⟩
  go_wp2_with fail
  refine Calls.mono (HA.out _) ?_
  rintro e w1 ⟨rfl, hb1⟩
  have B0 := blk_below (blk_new w _) hb1
  obtain ⟨k0, k1, k2, k3⟩ := blk2 B0
  have HB1 : Hid (Below w.heap.size w w1) := ((Below.refl _ _).alloc (Nat.le_refl _) _).trans (hb1.mono (by simp))
  have HB0 : Hid (w1.heap[w.heap.size]? = _) := B0
  clear hb1 B0 HA
  go_wp2
  refine bodyPost_ret (v := .tuple #[.agg #[.float .f64 (wholeLo x), .float .f64 (wholeHi x)], .nilIface]) (by simp [results, Tryz.results70, go_sem, k0, k1]) rfl ?_
  exact ⟨rfl, (HB1.out.setCell (by simp) _).setCell (by simp) _⟩
end Go.Proofs.YtgaiapppgghdjaaGreatDoor
