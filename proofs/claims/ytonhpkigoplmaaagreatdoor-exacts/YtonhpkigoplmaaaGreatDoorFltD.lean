/-
  math.Inf, math.IsNaN, math.Nextafter.
-/
import Derived.Test.YtonhpkigoplmaaaGreatDoorFltB
import Derived.Test.YtonhpkigoplmaaaGreatDoorRndM
namespace Go.Proofs.YtonhpkigoplmaaaGreatDoor
open Go.RowKit Go.Extern Ieee

/-- The word of a sign and a rung. -/
def wd (s : Bool) (r : Nat) : Nat := r + (if s then 9223372036854775808 else 0)

theorem wd_lt {s : Bool} {r : Nat} (h : r < 9223372036854775808) : wd s r < 18446744073709551616 := by
  unfold wd; split <;> omega

theorem read_wd {s : Bool} {r : Nat} (h : r < 9218868437227405312) (h0 : 0 < r) : ∃ n e, 0 < n ∧ double.read (wd s r) = .number s n e := by
  have hsw : double.signWeight = 9223372036854775808 := rfl
  have hbn : double.binade = 4503599627370496 := rfl
  have hir : double.infRung = 9218868437227405312 := rfl
  have hlp : double.leastPlace = -1074 := rfl
  have hm : wd s r % 9223372036854775808 = r := by unfold wd; split <;> omega
  have hd : (wd s r / 9223372036854775808 % 2 == 1) = s := by
    unfold wd
    cases s
    · rw [if_neg Bool.false_ne_true, show (r + 0) / 9223372036854775808 % 2 = 0 by omega]; rfl
    · rw [if_pos rfl, show (r + 9223372036854775808) / 9223372036854775808 % 2 = 1 by omega]; rfl
  unfold Format.read
  simp only [hsw, hbn, hir, hlp, hm, hd]
  by_cases hs : r < 4503599627370496
  · rw [if_pos hs]; exact ⟨_, _, h0, rfl⟩
  · rw [if_neg hs, if_pos h]; exact ⟨_, _, by omega, rfl⟩

theorem ord_self {s : Bool} {r : Nat} (h : r < 9218868437227405312) (h0 : 0 < r) : (FloatKind.f64.format.order (wd s r) (wd s r) == some Ordering.eq) = true := by
  obtain ⟨n, e, hn, hr⟩ := read_wd (s := s) h h0
  show (double.order _ _ == _) = _
  unfold Format.order
  rw [hr]
  simp only [Datum.order]
  rw [cmp_eq' rfl]; rfl

theorem ord_zero {s : Bool} {r : Nat} (h : r < 9218868437227405312) (h0 : 0 < r) : FloatKind.f64.format.order (wd s r) 0 = some (if s then .lt else .gt) := by
  obtain ⟨n, e, hn, hr⟩ := read_wd (s := s) h h0
  show double.order _ _ = _
  unfold Format.order
  have hz : double.read 0 = .number false 0 (-1074) := rfl
  rw [hr, hz]
  simp only [Datum.order, signed_eq, Nat.zero_mul, sg_zero]
  have hpos : 0 < n * 2 ^ (e - min e (-1074)).toNat := Nat.mul_pos hn (Nat.two_pow_pos _)
  generalize n * 2 ^ (e - min e (-1074)).toNat = m at *
  cases s
  · rw [cmp_gt' (by simp [sg]; omega)]; rfl
  · rw [cmp_lt' (by simp [sg]; omega)]; rfl

theorem ord_inf {s : Bool} {r : Nat} (h : r < 9218868437227405312) (h0 : 0 < r) : FloatKind.f64.format.order (wd s r) 9218868437227405312 = some .lt ∧ FloatKind.f64.format.order 9218868437227405312 (wd s r) = some .gt := by
  obtain ⟨n, e, hn, hr⟩ := read_wd (s := s) h h0
  show double.order _ _ = _ ∧ double.order _ _ = _
  unfold Format.order
  rw [hr, read_inf]
  exact ⟨rfl, rfl⟩

theorem read_ninf : double.read 18442240474082181120 = .infinity true := rfl

theorem ord_ninf {s : Bool} {r : Nat} (h : r < 9218868437227405312) (h0 : 0 < r) : FloatKind.f64.format.order (wd s r) 18442240474082181120 = some .gt ∧ FloatKind.f64.format.order 18442240474082181120 (wd s r) = some .lt := by
  obtain ⟨n, e, hn, hr⟩ := read_wd (s := s) h h0
  show double.order _ _ = _ ∧ double.order _ _ = _
  unfold Format.order
  rw [hr, read_ninf]
  exact ⟨rfl, rfl⟩

theorem ord_inf_self : (FloatKind.f64.format.order 9218868437227405312 9218868437227405312 == some Ordering.eq) = true := rfl
theorem ord_ninf_self : (FloatKind.f64.format.order 18442240474082181120 18442240474082181120 == some Ordering.eq) = true := rfl

theorem isNaN_any (b : Nat) (w : World) (h : (FloatKind.f64.format.order b b == some Ordering.eq) = true) : Calls Tryz.prog 180 #[.float .f64 b] w fun e w' => e = .returned (.bool false) ∧ w' = w := by
  go_enter Tryz.func180, Tryz.ntmps180
  go_wp2
  go_ret
  refine ⟨?_, rfl⟩
  show Ending.returned (.bool (_ != _)) = _
  rw [bne, h]; rfl

theorem inf_up (w : World) : Calls Tryz.prog 173 #[.int .i64 1] w fun e w' => e = .returned (.float .f64 9218868437227405312) ∧ w' = w := by
  have h93 := @run_callFunc_extern Tryz.prog 113 _ MathFloatBits.float64frombits Tryz.func113 (by kernel_rfl) (by kernel_rfl) (by kernel_rfl) (by kernel_rfl)
  have cf : ∀ w, (MathFloatBits.float64frombits #[.int .u64 9218868437227405312]).run Tryz.prog w = .ok (.float .f64 9218868437227405312) w := fun w => c_from 9218868437227405312 w
  go_enter Tryz.func173, Tryz.ntmps173
  go_wp2
  go_ret
  exact ⟨rfl, rfl⟩

theorem inf_down (w : World) : Calls Tryz.prog 173 #[.int .i64 (-1)] w fun e w' => e = .returned (.float .f64 18442240474082181120) ∧ w' = w := by
  have h93 := @run_callFunc_extern Tryz.prog 113 _ MathFloatBits.float64frombits Tryz.func113 (by kernel_rfl) (by kernel_rfl) (by kernel_rfl) (by kernel_rfl)
  have cf : ∀ w, (MathFloatBits.float64frombits #[.int .u64 18442240474082181120]).run Tryz.prog w = .ok (.float .f64 18442240474082181120) w := fun w => c_from 18442240474082181120 w
  go_enter Tryz.func173, Tryz.ntmps173
  go_wp2
  go_ret
  exact ⟨rfl, rfl⟩

/-- The float next to one that is not 0: farther off 0, or nearer to it. -/
theorem next_any (s u : Bool) (r y : Nat) (w : World) (h : r < 9218868437227405312) (h0 : 0 < r) (hy : y = if u then 9218868437227405312 else 18442240474082181120) :
    Calls Tryz.prog 172 #[.float .f64 (wd s r), .float .f64 y] w fun e w' => e = .returned (.float .f64 (wd s (if s = u then r - 1 else r + 1))) ∧ w' = w := by
  have h89 := @run_callFunc_extern Tryz.prog 99 _ MathFloatBits.float64bits Tryz.func99 (by kernel_rfl) (by kernel_rfl) (by kernel_rfl) (by kernel_rfl)
  have h93 := @run_callFunc_extern Tryz.prog 113 _ MathFloatBits.float64frombits Tryz.func113 (by kernel_rfl) (by kernel_rfl) (by kernel_rfl) (by kernel_rfl)
  have cb := c_bits (wd s r)
  have cu : Hid (∀ w, (MathFloatBits.float64frombits #[.int .u64 ((wd s r : Int) + 1)]).run Tryz.prog w = .ok (.float .f64 (wd s (r + 1))) w) := by
    intro w
    rw [show (wd s r : Int) + 1 = ((wd s (r + 1) : Nat) : Int) by unfold wd; omega]
    exact c_from _ w
  have cd : Hid (∀ w, (MathFloatBits.float64frombits #[.int .u64 ((wd s r : Int) - 1)]).run Tryz.prog w = .ok (.float .f64 (wd s (r - 1))) w) := by
    intro w
    rw [show (wd s r : Int) - 1 = ((wd s (r - 1) : Nat) : Int) by unfold wd; omega]
    exact c_from _ w
  have hN := ord_self (s := s) h h0
  have hz := ord_zero (s := s) h h0
  have hi := ord_inf (s := s) h h0
  have hni := ord_ninf (s := s) h h0
  have hb1 : wd s r < 18446744073709551615 := by unfold wd; split <;> omega
  have hb2 : 0 < wd s r := by unfold wd; split <;> omega
  have HN : Hid ((FloatKind.f64.format.order (wd s r) (wd s r) == some Ordering.eq) = true) := hN
  clear hN h h0
  generalize wd s r = b at *
  cases u
  · obtain rfl : y = 18442240474082181120 := hy
    obtain ⟨e1, e2⟩ := hni
    clear hi
    go_enter Tryz.func172, Tryz.ntmps172
    go_wp2_with fail
    refine (isNaN_any b w HN.out).mono ?_
    rintro e w' ⟨rfl, rfl⟩
    go_wp2_with fail
    refine (isNaN_any _ _ ord_ninf_self).mono ?_
    rintro e w' ⟨rfl, rfl⟩
    cases s
    · have hz0 : FloatKind.f64.format.order b 0 = some Ordering.gt := hz
      have cu := cu.out
      have cd := cd.out
      clear hz
      go_wp2
      go_ret
      exact ⟨rfl, rfl⟩
    · have hz0 : FloatKind.f64.format.order b 0 = some Ordering.lt := hz
      have cu := cu.out
      have cd := cd.out
      clear hz
      go_wp2
      go_ret
      exact ⟨rfl, rfl⟩
  · obtain rfl : y = 9218868437227405312 := hy
    obtain ⟨e1, e2⟩ := hi
    clear hni
    go_enter Tryz.func172, Tryz.ntmps172
    go_wp2_with fail
    refine (isNaN_any b w HN.out).mono ?_
    rintro e w' ⟨rfl, rfl⟩
    go_wp2_with fail
    refine (isNaN_any _ _ ord_inf_self).mono ?_
    rintro e w' ⟨rfl, rfl⟩
    cases s
    · have hz0 : FloatKind.f64.format.order b 0 = some Ordering.gt := hz
      have cu := cu.out
      have cd := cd.out
      clear hz
      go_wp2
      go_ret
      exact ⟨rfl, rfl⟩
    · have hz0 : FloatKind.f64.format.order b 0 = some Ordering.lt := hz
      have cu := cu.out
      have cd := cd.out
      clear hz
      go_wp2
      go_ret
      exact ⟨rfl, rfl⟩
end Go.Proofs.YtonhpkigoplmaaaGreatDoor
