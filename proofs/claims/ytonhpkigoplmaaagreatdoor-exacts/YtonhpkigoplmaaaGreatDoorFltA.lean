/-
  math.Abs, isPlain, oneZero, plain.float.
-/
import Derived.Test.YtonhpkigoplmaaaGreatDoorFloatM
import Derived.Test.YtonhpkigoplmaaaGreatDoorCode
namespace Go.Proofs.YtonhpkigoplmaaaGreatDoor
open Go.RowKit Go.Extern

theorem c_bits (b : Nat) (w : World) : (MathFloatBits.float64bits #[.float .f64 b]).run Tryz.prog w = .ok (.int .u64 (b : Int)) w := by kernel_rfl
theorem c_from (b : Nat) (w : World) : (MathFloatBits.float64frombits #[.int .u64 (b : Int)]).run Tryz.prog w = .ok (.float .f64 b) w := by kernel_rfl

theorem abs_word (b : Nat) (hb : b < 18446744073709551616) : bits .andNot .u64 (b : Int) 9223372036854775808 = ((b % 9223372036854775808 : Nat) : Int) := by
  have h := u64_andNot_nat b 9223372036854775808 hb (by decide)
  have e2 : ((9223372036854775808 : Nat) : Int) = 9223372036854775808 := rfl
  rw [e2] at h
  rw [h]
  have e3 : 18446744073709551615 - 9223372036854775808 = 9223372036854775807 := by decide
  rw [e3]
  have : b &&& 9223372036854775807 = b % 9223372036854775808 := Nat.and_two_pow_sub_one_eq_mod _ 63
  rw [this]

theorem float_any (b : Nat) (w : World) : Calls Tryz.prog 56 #[.int .u64 (b : Int)] w fun e w' => e = .returned (.float .f64 b) ∧ w' = w := by
  have h93 := @run_callFunc_extern Tryz.prog 113 _ MathFloatBits.float64frombits Tryz.func113 (by kernel_rfl) (by kernel_rfl) (by kernel_rfl) (by kernel_rfl)
  have cf := c_from
  go_enter Tryz.func56, Tryz.ntmps56
  go_wp2
  go_ret
  exact ⟨rfl, rfl⟩

theorem abs_any (b : Nat) (w : World) (hb : b < 18446744073709551616) : Calls Tryz.prog 160 #[.float .f64 b] w fun e w' => e = .returned (.float .f64 (b % 9223372036854775808)) ∧ w' = w := by
  have h89 := @run_callFunc_extern Tryz.prog 99 _ MathFloatBits.float64bits Tryz.func99 (by kernel_rfl) (by kernel_rfl) (by kernel_rfl) (by kernel_rfl)
  have h93 := @run_callFunc_extern Tryz.prog 113 _ MathFloatBits.float64frombits Tryz.func113 (by kernel_rfl) (by kernel_rfl) (by kernel_rfl) (by kernel_rfl)
  have cb := c_bits
  have ha := abs_word b hb
  have cf := c_from (b % 9223372036854775808)
  generalize hr : b % 9223372036854775808 = r at *
  clear hr hb
  go_enter Tryz.func160, Tryz.ntmps160
  go_wp2
  go_ret
  exact ⟨rfl, rfl⟩

theorem isPlain_any (b : Nat) (w : World) (hb : b < 18446744073709551616) : Calls Tryz.prog 112 #[.float .f64 b] w fun e w' => e = .returned (.bool (plainN b).isSome) ∧ w' = w := by
  have hp := isPlainB_eq hb
  rw [← hp]
  have HA : Hid (Calls Tryz.prog 160 #[.float .f64 b] w fun e w' => e = .returned (.float .f64 (b % 9223372036854775808)) ∧ w' = w) := abs_any b w hb
  clear hp hb
  generalize b % 9223372036854775808 = r at *
  have HP : ∀ b0 b1 b2, (FloatKind.f64.format.order r 0 == some Ordering.eq) = b0 → (FloatKind.f64.format.order r 553942754166571008 == some Ordering.gt || FloatKind.f64.format.order r 553942754166571008 == some Ordering.eq) = b1 → (FloatKind.f64.format.order r 8660422083433463808 == some Ordering.lt || FloatKind.f64.format.order r 8660422083433463808 == some Ordering.eq) = b2 → Hid (isPlainB r = (b0 || (b1 && b2))) := by
    intro b0 b1 b2 h0 h1 h2
    subst h0 h1 h2
    rfl
  generalize hb0 : (FloatKind.f64.format.order r 0 == some Ordering.eq) = b0 at *
  generalize hb1 : (FloatKind.f64.format.order r 553942754166571008 == some Ordering.gt || FloatKind.f64.format.order r 553942754166571008 == some Ordering.eq) = b1 at *
  generalize hb2 : (FloatKind.f64.format.order r 8660422083433463808 == some Ordering.lt || FloatKind.f64.format.order r 8660422083433463808 == some Ordering.eq) = b2 at *
  have HP := HP b0 b1 b2 rfl rfl rfl
  cases b0 <;> cases b1 <;> cases b2
  all_goals
    go_enter Tryz.func112, Tryz.ntmps112
    go_wp2_with fail
    refine Calls.mono HA.out ?_
    rintro e w' ⟨rfl, rfl⟩
    clear HA
    go_wp2
    go_ret
    rw [HP.out]
    exact ⟨rfl, rfl⟩

/-- A float's word without a sign at 0. -/
def posW (b : Nat) : Nat := if b % 9223372036854775808 = 0 then 0 else b

theorem plain_eq_zero {b : Nat} (hb : b < 18446744073709551616) (hp : (plainN b).isSome = true) : (FloatKind.f64.format.order b 0 == some Ordering.eq) = decide (b % 9223372036854775808 = 0) := by
  obtain ⟨⟨s, n, e⟩, h⟩ := Option.isSome_iff_exists.1 hp
  show (Ieee.double.order b 0 == some Ordering.eq) = _
  unfold Ieee.Format.order
  have h0 : Ieee.double.read 0 = .number false 0 (-1074) := rfl
  rw [h0]
  rcases plain_read hb h with ⟨rfl, rfl, hz, s', hr⟩ | ⟨hn, hr⟩
  · rw [hr]
    simp only [Ieee.Datum.order, signed_eq, Nat.zero_mul, sg_zero, hz]
    rw [cmp_eq' rfl]; rfl
  · rw [hr]
    simp only [Ieee.Datum.order, signed_eq, Nat.zero_mul, sg_zero]
    have hne : b % 9223372036854775808 ≠ 0 := by
      intro hz
      have : plainN b = some (false, 0, 0) := by
        unfold plainN
        rw [if_pos (by omega)]
      rw [this] at h
      simp at h
      omega
    have hpos : 0 < n * 2 ^ (e - min e (-1074)).toNat := Nat.mul_pos hn (Nat.two_pow_pos _)
    generalize n * 2 ^ (e - min e (-1074)).toNat = m at *
    cases s
    · rw [cmp_gt' (by simp [sg]; omega)]; simp [hne]
    · rw [cmp_lt' (by simp [sg]; omega)]; simp [hne]

theorem oneZero_any (b : Nat) (w : World) (hb : b < 18446744073709551616) (hp : (plainN b).isSome = true) : Calls Tryz.prog 87 #[.float .f64 b] w fun e w' => e = .returned (.float .f64 (posW b)) ∧ w' = w := by
  have he := plain_eq_zero hb hp
  clear hp hb
  by_cases hz : b % 9223372036854775808 = 0
  · have r : posW b = 0 := by unfold posW; rw [if_pos hz]
    rw [r]
    rw [decide_eq_true hz] at he
    clear hz r
    go_enter Tryz.func87, Tryz.ntmps87
    go_wp2
    go_ret
    exact ⟨rfl, rfl⟩
  · have r : posW b = b := by unfold posW; rw [if_neg hz]
    rw [r]
    rw [decide_eq_false hz] at he
    clear hz r
    go_enter Tryz.func87, Tryz.ntmps87
    go_wp2
    go_ret
    exact ⟨rfl, rfl⟩
end Go.Proofs.YtonhpkigoplmaaaGreatDoor
