/-
  Rounding, by rungs: what encloseref.Round gives, and what the nearest float is.
-/
import Derived.Test.YtonhpkigoplmaaaGreatDoorNumI
namespace Go.Proofs.YtonhpkigoplmaaaGreatDoor
open Go.RowKit

/-- The word of a rung within the plain floats. -/
def rngW (s : Bool) (r : Int) : Nat × Bool := if 553942754166571008 ≤ r ∧ r ≤ 8660422083433463808 then (r.toNat + (if s then 9223372036854775808 else 0), true) else (0, false)

theorem packN_rung (s : Bool) {m : Nat} {e : Int} (h1 : 4503599627370496 ≤ m) (h2 : m < 9007199254740992) : packN s m e = rngW s ((e + 1074) * 4503599627370496 + m) := by
  unfold packN rngW
  by_cases h : e + 1075 < 123 ∨ 1923 < e + 1075 ∨ (e + 1075 = 1923 ∧ 4503599627370496 < m)
  · rw [if_pos h, if_neg (by omega)]
  · have hc : 553942754166571008 ≤ (e + 1074) * 4503599627370496 + (m : Int) ∧ (e + 1074) * 4503599627370496 + (m : Int) ≤ 8660422083433463808 := by omega
    rw [if_neg h, if_pos hc]
    have : m - 4503599627370496 + (e + 1075).toNat * 4503599627370496 = ((e + 1074) * 4503599627370496 + (m : Int)).toNat := by omega
    rw [this]

/-- The first 53 bits of a number; is something left? -/
def mf (n : Nat) : Nat := if bl n ≤ 53 then n * 2 ^ (53 - bl n) else n / 2 ^ (bl n - 53)
def inex (n : Nat) : Bool := decide (53 < bl n ∧ n % 2 ^ (bl n - 53) ≠ 0)

/-- The rung of n * 2 ^ e, towards 0. -/
def rung (n : Nat) (e : Int) : Int := (e + bl n + 1021) * 4503599627370496 + mf n

theorem mf_bounds {n : Nat} (h0 : 0 < n) : 4503599627370496 ≤ mf n ∧ mf n < 9007199254740992 := by
  unfold mf
  split
  · exact short_bounds h0 (by assumption)
  · exact long_bounds (by omega)

theorem roundN_rung (s : Bool) {n : Nat} (e way : Int) (h0 : n ≠ 0) : roundN s n e way = rngW s (rung n e + if offS s way && inex n then 1 else 0) := by
  have hb := mant_bounds (offS s way) (Nat.pos_of_ne_zero h0)
  unfold roundN
  rw [if_neg h0, packN_rung s hb.1 hb.2]
  congr 1
  generalize offS s way = o
  unfold rung inex mf mant
  by_cases h : bl n ≤ 53
  · simp only [h, if_true, show ¬ 53 < bl n by omega, false_and, decide_false, Bool.and_false, Bool.false_eq_true, if_false]
    omega
  · simp only [h, if_false]
    by_cases hz : n % 2 ^ (bl n - 53) = 0
    · simp only [hz, ne_eq, not_true_eq_false, and_false, if_false, decide_false, Bool.and_false, Bool.false_eq_true]
      omega
    · simp only [hz, ne_eq, not_false_eq_true, and_true, show 53 < bl n by omega, decide_true, Bool.and_true]
      cases o
      · simp only [Bool.false_eq_true, if_false]; omega
      · simp only [if_true]
        split <;> simp only <;> omega

/-- Does the nearest float lie above in amount? -/
def nup (n : Nat) : Bool := decide (53 < bl n) && (decide (2 ^ (bl n - 53) < 2 * (n % 2 ^ (bl n - 53))) || (2 ^ (bl n - 53) == 2 * (n % 2 ^ (bl n - 53)) && (n / 2 ^ (bl n - 53)) % 2 == 1))

theorem bl_log2 {n : Nat} (h : n ≠ 0) : bl n = n.log2 + 1 := by unfold bl; rw [if_neg h]

theorem nearest_rung (s : Bool) {n : Nat} {e : Int} (h0 : n ≠ 0) (h1 : -1021 ≤ e + bl n) (h2 : e + bl n ≤ 1023) :
    Ieee.double.nearest s n e = (rung n e + if nup n then 1 else 0).toNat + (if s then 9223372036854775808 else 0) := by
  have hb := mf_bounds (Nat.pos_of_ne_zero h0)
  have hl := bl_log2 h0
  have hlp : Ieee.double.leastPlace = -1074 := by decide
  have hfb : Ieee.double.fractionBits = 52 := rfl
  have hbi : Ieee.double.binade = 4503599627370496 := by decide
  have hin : Ieee.double.infRung = 9218868437227405312 := by decide
  have hsw : Ieee.double.signWeight = 9223372036854775808 := by decide
  unfold Ieee.Format.nearest
  rw [if_neg h0]
  simp only [hlp, hfb, hbi, hin]
  have hlast : max (e + (n.log2 : Int) - ((52 : Nat) : Int)) (-1074) = e + bl n - 53 := by omega
  rw [hlast]
  have hcut : Ieee.Toward.even.cut s (n <<< (e - (e + (bl n : Int) - 53)).toNat) (e + (bl n : Int) - 53 - e).toNat = mf n + (if nup n then 1 else 0) := by
    rw [show (e - (e + (bl n : Int) - 53)).toNat = 53 - bl n by omega, show (e + (bl n : Int) - 53 - e).toNat = bl n - 53 by omega]
    unfold Ieee.Toward.cut
    by_cases h : bl n ≤ 53
    · have : bl n - 53 = 0 := by omega
      simp only [this, Nat.zero_min, Nat.shiftLeft_zero, Nat.div_one, Nat.mod_one]
      unfold nup mf
      rw [if_pos h]
      simp [show ¬ 53 < bl n by omega, Nat.shiftLeft_eq]
    · have e1 : 53 - bl n = 0 := by omega
      have e2 : min (bl n - 53) (n.log2 + 2) = bl n - 53 := by omega
      simp only [e1, Nat.shiftLeft_zero, e2, Nat.one_shiftLeft]
      unfold nup mf
      rw [if_neg h]
      rw [decide_eq_true (show 53 < bl n by omega), Bool.true_and]
      generalize (decide (2 ^ (bl n - 53) < 2 * (n % 2 ^ (bl n - 53))) || (2 ^ (bl n - 53) == 2 * (n % 2 ^ (bl n - 53)) && (n / 2 ^ (bl n - 53)) % 2 == 1)) = b
      cases b <;> rfl
  rw [hcut]
  have hk : (if nup n = true then (1 : Nat) else 0) ≤ 1 := by split <;> omega
  have hk2 : ((if nup n = true then (1 : Int) else 0)) = (((if nup n = true then (1 : Nat) else 0) : Nat) : Int) := by split <;> rfl
  rw [hk2]
  generalize (if nup n = true then (1 : Nat) else 0) = k at *
  have hr : rung n e = (e + bl n + 1021) * 4503599627370496 + mf n := rfl
  rw [hr]
  generalize mf n = m at *
  generalize bl n = B at *
  unfold Ieee.Format.word
  rw [hsw]
  obtain ⟨T, hT⟩ : ∃ T : Nat, e + B + 1021 = (T : Int) := ⟨(e + B + 1021).toNat, by omega⟩
  rw [show e + (B : Int) - 53 - -1074 = (T : Int) by omega, hT, Int.toNat_natCast]
  have hT2 : T ≤ 2044 := by omega
  have hcast : (T : Int) * 4503599627370496 + (m : Int) + (k : Int) = ((T * 4503599627370496 + (m + k) : Nat) : Int) := by
    rw [Int.natCast_add, Int.natCast_mul, Int.natCast_add, Int.add_assoc]; rfl
  rw [hcast, Int.toNat_natCast, Nat.min_eq_left (by omega)]
  cases s
  · rw [if_neg Bool.false_ne_true, if_neg Bool.false_ne_true, Nat.add_zero]
  · rw [if_pos rfl, if_pos rfl, Nat.add_comm]
end Go.Proofs.YtonhpkigoplmaaaGreatDoor
