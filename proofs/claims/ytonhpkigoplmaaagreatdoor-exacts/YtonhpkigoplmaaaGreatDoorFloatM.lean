/-
  Floats by their bits: how two of them stand; which are plain. Plain mathematics.
-/
import Derived.Test.YtonhpkigoplmaaaGreatDoorNumE
import Ieee.Arith
namespace Go.Proofs.YtonhpkigoplmaaaGreatDoor
open Ieee

/-- A number with its sign. -/
def sg (s : Bool) (n : Nat) : Int := if s then -(n : Int) else (n : Int)

theorem signed_eq (s : Bool) (m k : Nat) : signed s m k = sg s (m * 2 ^ k) := by
  unfold signed sg; rw [Nat.shiftLeft_eq]

theorem sgnI_sumN (sa sb : Bool) (na nb : Nat) (ea eb : Int) :
    sgnI (sumN sa na ea sb nb eb).1 (sumN sa na ea sb nb eb).2.1 < 0 ↔ sg sa (lvA na ea eb) + sg sb (lvB nb ea eb) < 0 := by
  unfold sumN sgnI sg
  generalize lvA na ea eb = A
  generalize lvB nb ea eb = B
  cases sa <;> cases sb <;> simp <;> (repeat' split) <;> simp_all <;> omega

theorem sg_negS (s : Bool) (n k : Nat) : sg (negS s n) (n * k) = - sg s (n * k) := by
  unfold sg negS
  by_cases h : n = 0
  · subst h; simp
  · cases s <;> simp [h]

/-- Is one number below another? Both at one power of two. -/
theorem lessN_eq (sa sb : Bool) (na nb : Nat) (ea eb : Int) :
    lessN sa na ea sb nb eb = decide (sg sa (lvA na ea eb) < sg sb (lvB nb ea eb)) := by
  unfold lessN
  rw [decide_eq_decide, sgnI_sumN]
  have : sg (negS sb nb) (lvB nb ea eb) = - sg sb (lvB nb ea eb) := sg_negS _ _ _
  rw [this]; omega

theorem sg_zero (s : Bool) : sg s 0 = 0 := by cases s <;> rfl
theorem sg_pos_iff (s : Bool) (n k : Nat) (hk : 0 < k) : (0 < sg s (n * k) ↔ 0 < sg s n) ∧ (sg s (n * k) < 0 ↔ sg s n < 0) := by
  unfold sg
  have : n * k = 0 ↔ n = 0 := by
    constructor
    · intro h; rcases Nat.mul_eq_zero.1 h with h | h <;> omega
    · rintro rfl; simp
  cases s <;> constructor <;> constructor <;> intro h <;> simp at * <;> omega

/-- A plain float's word, taken apart. -/
theorem plain_read {b : Nat} {s : Bool} {n : Nat} {e : Int} (hb : b < 18446744073709551616) (h : plainN b = some (s, n, e)) :
    (n = 0 ∧ e = 0 ∧ b % 9223372036854775808 = 0 ∧ ∃ s', double.read b = .number s' 0 (-1074)) ∨ (0 < n ∧ double.read b = .number s n e) := by
  unfold plainN at h
  have hsw : double.signWeight = 9223372036854775808 := rfl
  have hbn : double.binade = 4503599627370496 := rfl
  have hir : double.infRung = 9218868437227405312 := rfl
  have hlp : double.leastPlace = -1074 := rfl
  split at h
  · rename_i h0
    left
    simp only [Option.some.injEq, Prod.mk.injEq] at h
    obtain ⟨-, rfl, rfl⟩ := h
    have hz : b % 9223372036854775808 = 0 := by omega
    refine ⟨rfl, rfl, hz, (b / 9223372036854775808 % 2 == 1), ?_⟩
    unfold Format.read
    simp only [hsw, hbn, hir, hlp, hz]
    rw [if_pos (by omega)]
  · rename_i h0
    split at h
    · cases h
    · rename_i h1
      right
      simp only [Option.some.injEq, Prod.mk.injEq] at h
      obtain ⟨rfl, rfl, rfl⟩ := h
      refine ⟨by omega, ?_⟩
      unfold Format.read
      simp only [hsw, hbn, hir, hlp]
      rw [if_neg (by omega), if_pos (by omega)]
      congr 1
      · rw [Bool.eq_iff_iff]; simp only [beq_iff_eq, decide_eq_true_eq]; omega
      · omega
      · omega

theorem min_self_sub (i : Int) : (i - min i i).toNat = 0 := by omega

/-- How two plain floats stand. -/
theorem plain_order {a b : Nat} {sa sb : Bool} {na nb : Nat} {ea eb : Int} (ha : a < 18446744073709551616) (hb : b < 18446744073709551616) (pa : plainN a = some (sa, na, ea)) (pb : plainN b = some (sb, nb, eb)) :
    (double.order a b == some Ordering.gt) = lessN sb nb eb sa na ea := by
  rw [lessN_eq]
  have key : ∀ x y : Int, (some (compare x y) == some Ordering.gt) = decide (y < x) := by
    intro x y
    rw [Bool.eq_iff_iff]
    simp [compare, compareOfLessAndEq]
    constructor
    · intro h; split at h <;> (try split at h) <;> simp at h ⊢ <;> omega
    · intro h; rw [if_neg (by omega), if_neg (by omega)]
  unfold Format.order
  rcases plain_read ha pa with ⟨rfl, rfl, -, s1, r1⟩ | ⟨hna, r1⟩ <;> rcases plain_read hb pb with ⟨rfl, rfl, -, s2, r2⟩ | ⟨hnb, r2⟩
  · rw [r1, r2]
    simp only [Datum.order, key, signed_eq, Nat.zero_mul, sg_zero, lvA, lvB]
  · rw [r1, r2]
    simp only [Datum.order, key, signed_eq, Nat.zero_mul, sg_zero, lvA, lvB]
    rw [decide_eq_decide, (sg_pos_iff sb nb _ (Nat.two_pow_pos _)).2, (sg_pos_iff sb nb _ (Nat.two_pow_pos _)).2]
  · rw [r1, r2]
    simp only [Datum.order, key, signed_eq, Nat.zero_mul, sg_zero, lvA, lvB]
    rw [decide_eq_decide, (sg_pos_iff sa na _ (Nat.two_pow_pos _)).1, (sg_pos_iff sa na _ (Nat.two_pow_pos _)).1]
  · rw [r1, r2]
    simp only [Datum.order, key, signed_eq]
    have e1 : lvA nb eb ea = nb * 2 ^ (eb - min ea eb).toNat := by unfold lvA; rw [Int.min_comm]
    have e2 : lvB na eb ea = na * 2 ^ (ea - min ea eb).toNat := by unfold lvB; rw [Int.min_comm]
    rw [e1, e2]

/-! which floats are plain, by comparisons -/
theorem read_sub {r : Nat} (h : r < 4503599627370496) : double.read r = .number false r (-1074) := by
  have hsw : double.signWeight = 9223372036854775808 := rfl
  have hbn : double.binade = 4503599627370496 := rfl
  have hlp : double.leastPlace = -1074 := rfl
  unfold Format.read
  simp only [hsw, hbn, hlp]
  rw [Nat.mod_eq_of_lt (by omega), if_pos h, show r / 9223372036854775808 = 0 by omega]
  rfl

theorem read_norm {r : Nat} (h : 4503599627370496 ≤ r) (h2 : r < 9218868437227405312) : double.read r = .number false (4503599627370496 + r % 4503599627370496) (((r / 4503599627370496 : Nat) : Int) - 1075) := by
  have hsw : double.signWeight = 9223372036854775808 := rfl
  have hbn : double.binade = 4503599627370496 := rfl
  have hir : double.infRung = 9218868437227405312 := rfl
  have hlp : double.leastPlace = -1074 := rfl
  unfold Format.read
  simp only [hsw, hbn, hir, hlp]
  rw [Nat.mod_eq_of_lt (show r < 9223372036854775808 by omega), if_neg (by omega), if_pos h2, show r / 9223372036854775808 = 0 by omega]
  congr 1
  omega

theorem read_inf : double.read 9218868437227405312 = .infinity false := rfl

theorem read_nan {r : Nat} (h : 9218868437227405312 < r) (h2 : r < 9223372036854775808) : ∃ t, double.read r = .nan false t := by
  have hsw : double.signWeight = 9223372036854775808 := rfl
  have hbn : double.binade = 4503599627370496 := rfl
  have hir : double.infRung = 9218868437227405312 := rfl
  unfold Format.read
  simp only [hsw, hbn, hir]
  rw [Nat.mod_eq_of_lt h2, if_neg (by omega), if_neg (by omega), if_neg (by omega), show r / 9223372036854775808 = 0 by omega]
  exact ⟨_, rfl⟩

theorem signed_false (m k : Nat) : signed false m k = ((m * 2 ^ k : Nat) : Int) := by rw [signed_eq]; rfl

theorem cmp_lt' {x y : Int} (h : x < y) : compare x y = .lt := by simp [compare, compareOfLessAndEq, h]
theorem cmp_eq' {x y : Int} (h : x = y) : compare x y = .eq := by subst h; simp [compare, compareOfLessAndEq]
theorem cmp_gt' {x y : Int} (h : y < x) : compare x y = .gt := by
  simp only [compare, compareOfLessAndEq]; rw [if_neg (by omega), if_neg (by omega)]

/-- A float that is not below 0 against a power of two. -/
theorem order_pow {r K : Nat} (hr : r < 9218868437227405312) (hK1 : 1 ≤ K) (hK2 : K ≤ 2046) :
    double.order r (K * 4503599627370496) = some (if r < K * 4503599627370496 then .lt else if r = K * 4503599627370496 then .eq else .gt) := by
  have hk : double.read (K * 4503599627370496) = .number false 4503599627370496 ((K : Int) - 1075) := by
    rw [read_norm (by omega) (by omega)]
    have e1 : K * 4503599627370496 % 4503599627370496 = 0 := by omega
    have e2 : K * 4503599627370496 / 4503599627370496 = K := by omega
    rw [e1, e2]
  unfold Format.order
  rw [hk]
  by_cases hs : r < 4503599627370496
  · rw [read_sub hs, if_pos (by omega)]
    simp only [Datum.order, signed_false, Option.some.injEq]
    apply cmp_lt'
    have hb : min (-1074 : Int) ((K : Int) - 1075) = -1074 := by omega
    rw [hb]
    have h1 : 1 ≤ 2 ^ ((K : Int) - 1075 - -1074).toNat := Nat.one_le_two_pow
    have h2 : 4503599627370496 * 1 ≤ 4503599627370496 * 2 ^ ((K : Int) - 1075 - -1074).toNat := Nat.mul_le_mul_left _ h1
    have h0 : ((-1074 : Int) - -1074).toNat = 0 := rfl
    rw [h0, Nat.pow_zero, Nat.mul_one]
    generalize 4503599627370496 * 2 ^ ((K : Int) - 1075 - -1074).toNat = Y at *
    omega
  · rw [read_norm (by omega) hr]
    simp only [Datum.order, signed_false, Option.some.injEq]
    have hf : r % 4503599627370496 < 4503599627370496 := by omega
    have hre : r = r / 4503599627370496 * 4503599627370496 + r % 4503599627370496 := by omega
    generalize r / 4503599627370496 = e at *
    generalize r % 4503599627370496 = f at *
    rcases Nat.lt_trichotomy e K with h | h | h
    · rw [if_pos (by omega)]
      apply cmp_lt'
      have hb : min ((e : Int) - 1075) ((K : Int) - 1075) = (e : Int) - 1075 := by omega
      rw [hb]
      have h0 : ((e : Int) - 1075 - ((e : Int) - 1075)).toNat = 0 := by omega
      have h3 : ((K : Int) - 1075 - ((e : Int) - 1075)).toNat = (K - e - 1) + 1 := by omega
      rw [h0, h3, Nat.pow_zero, Nat.mul_one, Nat.pow_succ]
      have h1 : 1 ≤ 2 ^ (K - e - 1) := Nat.one_le_two_pow
      generalize 2 ^ (K - e - 1) = Y at *
      omega
    · subst h
      have h0 : ∀ x : Int, (x - min x x).toNat = 0 := fun x => by omega
      rw [h0, Nat.pow_zero, Nat.mul_one, Nat.mul_one, if_neg (by omega)]
      split
      · exact cmp_eq' (by omega)
      · exact cmp_gt' (by omega)
    · rw [if_neg (by omega), if_neg (by omega)]
      apply cmp_gt'
      have hb : min ((e : Int) - 1075) ((K : Int) - 1075) = (K : Int) - 1075 := by omega
      rw [hb]
      have h0 : ((K : Int) - 1075 - ((K : Int) - 1075)).toNat = 0 := by omega
      have h3 : ((e : Int) - 1075 - ((K : Int) - 1075)).toNat = (e - K - 1) + 1 := by omega
      rw [h0, h3, Nat.pow_zero, Nat.mul_one, Nat.pow_succ]
      have h1 : 1 ≤ 2 ^ (e - K - 1) := Nat.one_le_two_pow
      have h2 : (4503599627370496 + f) * 2 ≤ (4503599627370496 + f) * (2 ^ (e - K - 1) * 2) := Nat.mul_le_mul_left _ (by omega)
      generalize (4503599627370496 + f) * (2 ^ (e - K - 1) * 2) = Y at *
      omega

theorem order_zero {r : Nat} (hr : r < 9223372036854775808) : (double.order r 0 == some Ordering.eq) = decide (r = 0) := by
  have h0 : double.read 0 = .number false 0 (-1074) := rfl
  unfold Format.order
  rw [h0]
  rcases (show r < 4503599627370496 ∨ (4503599627370496 ≤ r ∧ r < 9218868437227405312) ∨ r = 9218868437227405312 ∨ 9218868437227405312 < r by omega) with h | ⟨h, h2⟩ | h | h
  · rw [read_sub h]
    simp only [Datum.order, signed_false, Nat.zero_mul]
    have : ((-1074 : Int) - min (-1074) (-1074)).toNat = 0 := rfl
    rw [this, Nat.pow_zero, Nat.mul_one]
    by_cases hz : r = 0
    · subst hz; rfl
    · rw [cmp_gt' (by omega)]; simp [hz]
  · rw [read_norm h h2]
    simp only [Datum.order, signed_false, Nat.zero_mul]
    have h1 : 0 < (4503599627370496 + r % 4503599627370496) * 2 ^ (((r / 4503599627370496 : Nat) : Int) - 1075 - min (((r / 4503599627370496 : Nat) : Int) - 1075) (-1074)).toNat := Nat.mul_pos (by omega) (Nat.two_pow_pos _)
    rw [cmp_gt' (Int.ofNat_lt.2 h1)]
    have : r ≠ 0 := by omega
    simp [this]
  · subst h; rw [read_inf]; rfl
  · obtain ⟨t, ht⟩ := read_nan h hr
    rw [ht]
    have : r ≠ 0 := by omega
    simp [Datum.order, this]

/-- What isPlain asks, of a float without its sign. -/
def isPlainB (r : Nat) : Bool :=
  (double.order r 0 == some Ordering.eq) || ((double.order r 553942754166571008 == some Ordering.gt || double.order r 553942754166571008 == some Ordering.eq) && (double.order r 8660422083433463808 == some Ordering.lt || double.order r 8660422083433463808 == some Ordering.eq))

theorem isPlainB_eq {b : Nat} (_hb : b < 18446744073709551616) : isPlainB (b % 9223372036854775808) = (plainN b).isSome := by
  have hr : b % 9223372036854775808 < 9223372036854775808 := by omega
  have e1 : b / 4503599627370496 % 2048 = b % 9223372036854775808 / 4503599627370496 := by omega
  have e2 : b % 4503599627370496 = b % 9223372036854775808 % 4503599627370496 := by omega
  unfold isPlainB plainN
  rw [order_zero hr, e1, e2]
  generalize b % 9223372036854775808 = r at *
  rcases (show r < 9218868437227405312 ∨ r = 9218868437227405312 ∨ 9218868437227405312 < r by omega) with h | h | h
  · have o1 := order_pow (K := 123) h (by omega) (by omega)
    have o2 := order_pow (K := 1923) h (by omega) (by omega)
    have c1 : 123 * 4503599627370496 = 553942754166571008 := by decide
    have c2 : 1923 * 4503599627370496 = 8660422083433463808 := by decide
    rw [c1] at o1
    rw [c2] at o2
    rw [o1, o2]
    by_cases hz : r = 0
    · subst hz; rfl
    · rw [if_neg (show ¬(r / 4503599627370496 = 0 ∧ r % 4503599627370496 = 0) by omega)]
      by_cases hp : 553942754166571008 ≤ r ∧ r ≤ 8660422083433463808
      · rw [if_neg (show ¬(r / 4503599627370496 < 123 ∨ 1923 < r / 4503599627370496 ∨ (r / 4503599627370496 = 1923 ∧ 0 < r % 4503599627370496)) by omega)]
        rw [if_neg (by omega)]
        have h1 : r < 8660422083433463808 ∨ r = 8660422083433463808 := by omega
        rcases h1 with h1 | h1
        · rw [if_pos h1]
          by_cases h2 : r = 553942754166571008
          · rw [if_pos h2]; simp
          · rw [if_neg h2]; simp
        · rw [if_neg (by omega), if_pos h1, if_neg (by omega)]; simp
      · rw [if_pos (show (r / 4503599627370496 < 123 ∨ 1923 < r / 4503599627370496 ∨ (r / 4503599627370496 = 1923 ∧ 0 < r % 4503599627370496)) by omega)]
        by_cases h1 : r < 553942754166571008
        · rw [if_pos h1]; simp [hz]
        · rw [if_neg (show ¬ r < 8660422083433463808 by omega), if_neg (show ¬ r = 8660422083433463808 by omega)]; simp [hz]
  · subst h; rfl
  · obtain ⟨t, ht⟩ := read_nan h hr
    rw [if_neg (by omega), if_pos (by omega)]
    have hz : r ≠ 0 := by omega
    unfold Format.order
    rw [ht]
    simp [Datum.order, hz]
end Go.Proofs.YtonhpkigoplmaaaGreatDoor
