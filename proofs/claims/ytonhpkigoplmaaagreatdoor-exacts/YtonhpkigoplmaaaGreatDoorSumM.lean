/-
  Sums of floats: the nearest float of the exact sum.
-/
import Derived.Test.YtonhpkigoplmaaaGreatDoorFltF
namespace Go.Proofs.YtonhpkigoplmaaaGreatDoor
open Go.RowKit Go.Extern Ieee

theorem bl_shift {n : Nat} (h : n ≠ 0) (k : Nat) : bl (n * 2 ^ k) = bl n + k := by
  obtain ⟨b1, b2, b3⟩ := bl_bounds (Nat.pos_of_ne_zero h)
  refine bl_of ?_ ?_ (by omega)
  · rw [show bl n + k - 1 = (bl n - 1) + k by omega, Nat.pow_add]
    exact Nat.mul_le_mul_right _ b1
  · rw [Nat.pow_add]
    exact Nat.mul_lt_mul_of_pos_right b2 (Nat.two_pow_pos _)

theorem mul_pow_div (n a b : Nat) : n * 2 ^ (a + b) / 2 ^ b = n * 2 ^ a := by
  rw [Nat.pow_add, ← Nat.mul_assoc, Nat.mul_div_cancel _ (Nat.two_pow_pos _)]

theorem mf_shift {n : Nat} (h : n ≠ 0) (k : Nat) : mf (n * 2 ^ k) = mf n := by
  unfold mf
  rw [bl_shift h]
  by_cases h1 : bl n + k ≤ 53
  · rw [if_pos h1, if_pos (by omega), Nat.mul_assoc, ← Nat.pow_add]; congr 2; omega
  · rw [if_neg h1]
    by_cases h2 : bl n ≤ 53
    · rw [if_pos h2]
      have := mul_pow_div n (53 - bl n) (bl n + k - 53)
      rwa [show 53 - bl n + (bl n + k - 53) = k by omega] at this
    · rw [if_neg h2, show bl n + k - 53 = (bl n - 53) + k by omega, Nat.pow_add, Nat.mul_div_mul_right _ _ (Nat.two_pow_pos _)]

theorem nup_shift {n : Nat} (h : n ≠ 0) (k : Nat) : nup (n * 2 ^ k) = nup n := by
  unfold nup
  rw [bl_shift h]
  by_cases h2 : bl n ≤ 53
  · rw [decide_eq_false (show ¬ 53 < bl n by omega), Bool.false_and]
    by_cases h1 : bl n + k ≤ 53
    · rw [decide_eq_false (by omega), Bool.false_and]
    · have hz : n * 2 ^ k % 2 ^ (bl n + k - 53) = 0 := by
        rw [show k = (53 - bl n) + (bl n + k - 53) by omega, Nat.pow_add, ← Nat.mul_assoc]
        rw [show bl n + (53 - bl n + (bl n + k - 53)) - 53 = bl n + k - 53 by omega]
        exact Nat.mul_mod_left _ _
      rw [hz]
      have hp := Nat.two_pow_pos (bl n + k - 53)
      have e1 : decide (2 ^ (bl n + k - 53) < 2 * 0) = false := decide_eq_false (by omega)
      have e2 : (2 ^ (bl n + k - 53) == 2 * 0) = false := by rw [beq_eq_false_iff_ne]; omega
      rw [e1, e2]; simp
  · rw [decide_eq_true (show 53 < bl n by omega), decide_eq_true (show 53 < bl n + k by omega)]
    rw [show bl n + k - 53 = (bl n - 53) + k by omega, Nat.pow_add, Nat.mul_div_mul_right _ _ (Nat.two_pow_pos _), Nat.mul_mod_mul_right]
    generalize n % 2 ^ (bl n - 53) = r
    generalize 2 ^ (bl n - 53) = g
    have hp := Nat.two_pow_pos k
    generalize 2 ^ k = t at *
    have e1 : decide (g * t < 2 * (r * t)) = decide (g < 2 * r) := by
      rw [← Nat.mul_assoc]; exact decide_eq_decide.2 (Nat.mul_lt_mul_right hp)
    have e2 : (g * t == 2 * (r * t)) = (g == 2 * r) := by
      rw [← Nat.mul_assoc, Bool.eq_iff_iff, beq_iff_eq, beq_iff_eq]; exact Nat.mul_right_cancel_iff hp
    rw [e1, e2]

theorem inex_shift {n : Nat} (h : n ≠ 0) (k : Nat) (hi : inex n = false) : inex (n * 2 ^ k) = false := by
  unfold inex at *
  rw [bl_shift h]
  rw [decide_eq_false_iff_not] at hi ⊢
  rintro ⟨h1, h2⟩
  apply h2
  by_cases hb : bl n ≤ 53
  · rw [show k = (53 - bl n) + (bl n + k - 53) by omega, Nat.pow_add, ← Nat.mul_assoc]
    rw [show bl n + (53 - bl n + (bl n + k - 53)) - 53 = bl n + k - 53 by omega]
    exact Nat.mul_mod_left _ _
  · rw [show bl n + k - 53 = (bl n - 53) + k by omega, Nat.pow_add, Nat.mul_mod_mul_right]
    have : n % 2 ^ (bl n - 53) = 0 := by
      apply Decidable.byContradiction
      intro hc
      exact hi ⟨by omega, hc⟩
    rw [this, Nat.zero_mul]

theorem nearest_shift (s : Bool) {n : Nat} {e : Int} (k : Nat) (h0 : n ≠ 0) (h1 : -1021 ≤ e + k + bl n) (h2 : e + k + bl n ≤ 1023) : double.nearest s (n * 2 ^ k) e = double.nearest s n (e + k) := by
  have hn : n * 2 ^ k ≠ 0 := Nat.mul_ne_zero h0 (Nat.pos_iff_ne_zero.1 (Nat.two_pow_pos k))
  have hb := bl_shift h0 k
  rw [nearest_rung s hn (by omega) (by omega), nearest_rung s h0 h1 h2, nup_shift h0]
  have : rung (n * 2 ^ k) e = rung n (e + k) := by
    unfold rung
    rw [mf_shift h0, hb]
    congr 2
    omega
  rw [this]

/-- One value, one nearest float. -/
theorem nearest_val (s : Bool) {n m : Nat} {e f c : Int} (hc1 : c ≤ e) (hc2 : c ≤ f) (hn : n ≠ 0) (h1 : -1021 ≤ e + bl n) (h2 : e + bl n ≤ 1023) (hv : n * 2 ^ (e - c).toNat = m * 2 ^ (f - c).toNat) : double.nearest s n e = double.nearest s m f := by
  have hm : m ≠ 0 := by
    rintro rfl
    rw [Nat.zero_mul] at hv
    rcases Nat.mul_eq_zero.1 hv with h | h
    · exact hn h
    · exact Nat.pos_iff_ne_zero.1 (Nat.two_pow_pos _) h
  have e1 := bl_shift hn (e - c).toNat
  have e2 := bl_shift hm (f - c).toNat
  rw [hv] at e1
  have a := nearest_shift s (n := n) (e := c) (e - c).toNat hn (by omega) (by omega)
  have b := nearest_shift s (n := m) (e := c) (f - c).toNat hm (by omega) (by omega)
  rw [show c + ((e - c).toNat : Int) = e by omega] at a
  rw [show c + ((f - c).toNat : Int) = f by omega] at b
  rw [← a, ← b, hv]
end Go.Proofs.YtonhpkigoplmaaaGreatDoor
