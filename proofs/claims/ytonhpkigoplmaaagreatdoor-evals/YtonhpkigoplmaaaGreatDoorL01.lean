/-
  EnclM, KnowM, KnowQ, KnowR, ExactF, ExactG, ExactH, ExactI, ExactJ.
-/
import Derived.Test.YtonhpkigoplmaaaGreatDoorJ18
import Derived.Test.YtonhpkigoplmaaaGreatDoorJ21
import Derived.Test.YtonhpkigoplmaaaGreatDoorJ08
import Derived.Test.YtonhpkigoplmaaaGreatDoorJ06
namespace Go.Proofs.YtonhpkigoplmaaaGreatDoor
open Go.RowKit Go.Extern Ieee

/-- The number of a word in the range of plain floats. -/
theorem plT_wd (s : Bool) {r : Nat} (h1 : 553942754166571008 ≤ r) (h2 : r ≤ 8660422083433463808) : plainN (wd s r) = some (s, r % 4503599627370496 + 4503599627370496, ((r / 4503599627370496 : Nat) : Int) - 1075) := by
  have e1 : wd s r % 4503599627370496 = r % 4503599627370496 := by unfold wd; split <;> omega
  have e2 : wd s r / 4503599627370496 % 2048 = r / 4503599627370496 := by unfold wd; split <;> omega
  have e3 : decide (wd s r / 9223372036854775808 = 1) = s := by
    unfold wd
    cases s
    · rw [if_neg Bool.false_ne_true]; exact decide_eq_false (by omega)
    · rw [if_pos rfl]; exact decide_eq_true (by omega)
  unfold plainN
  rw [e1, e2, e3, if_neg (by omega), if_neg (by omega)]

theorem means_high {s : Bool} {m k : Nat} {E : Int} : MeansT E (sg s (m * 2 ^ k)) (s, m, E + k) := by
  intro c h1 h2
  simp only at *
  rw [sg_mul, Nat.mul_assoc, ← Nat.pow_add]
  congr 3
  omega

theorem word_low (s : Bool) {n : Nat} {e : Int} (h0 : n ≠ 0) (h1 : 553942754166571008 ≤ rung n e) (h2 : rung n e ≤ 8660422083433463808) : MeansT (e + bl n - 53) (sg s (mf n)) (plT (wd s (rung n e).toNat)) := by
  have hb := mf_bounds (Nat.pos_of_ne_zero h0)
  have hp := plT_wd s (r := (rung n e).toNat) (by omega) (by omega)
  have e1 : (rung n e).toNat % 4503599627370496 + 4503599627370496 = mf n := by unfold rung at *; omega
  have e2 : (((rung n e).toNat / 4503599627370496 : Nat) : Int) - 1075 = e + bl n - 53 := by unfold rung at *; omega
  have : plT (wd s (rung n e).toNat) = (s, mf n, e + bl n - 53) := by unfold plT; rw [hp, e1, e2]; rfl
  rw [this]
  have := means_high (s := s) (m := mf n) (k := 0) (E := e + bl n - 53)
  simpa using this

theorem word_up (s : Bool) {n : Nat} {e : Int} (h0 : n ≠ 0) (h1 : 553942754166571008 ≤ rung n e + 1) (h2 : rung n e + 1 ≤ 8660422083433463808) : MeansT (e + bl n - 53) (sg s (mf n + 1)) (plT (wd s (rung n e + 1).toNat)) := by
  have hb := mf_bounds (Nat.pos_of_ne_zero h0)
  have hp := plT_wd s (r := (rung n e + 1).toNat) (by omega) (by omega)
  by_cases hc : mf n + 1 < 9007199254740992
  · have e1 : (rung n e + 1).toNat % 4503599627370496 + 4503599627370496 = mf n + 1 := by unfold rung at *; omega
    have e2 : (((rung n e + 1).toNat / 4503599627370496 : Nat) : Int) - 1075 = e + bl n - 53 := by unfold rung at *; omega
    have : plT (wd s (rung n e + 1).toNat) = (s, mf n + 1, e + bl n - 53) := by unfold plT; rw [hp, e1, e2]; rfl
    rw [this]
    have := means_high (s := s) (m := mf n + 1) (k := 0) (E := e + bl n - 53)
    simpa using this
  · have e1 : (rung n e + 1).toNat % 4503599627370496 + 4503599627370496 = 4503599627370496 := by unfold rung at *; omega
    have e2 : (((rung n e + 1).toNat / 4503599627370496 : Nat) : Int) - 1075 = e + bl n - 53 + (1 : Nat) := by unfold rung at *; omega
    have : plT (wd s (rung n e + 1).toNat) = (s, 4503599627370496, e + bl n - 53 + (1 : Nat)) := by unfold plT; rw [hp, e1, e2]; rfl
    rw [this]
    have := means_high (s := s) (m := 4503599627370496) (k := 1) (E := e + bl n - 53)
    rwa [show 4503599627370496 * 2 ^ 1 = mf n + 1 by omega] at this

/-- The mantissa's bounds. -/
theorem mf_cut (n : Nat) (e c : Int) (_h0 : n ≠ 0) (h1 : c ≤ e) (h2 : c ≤ e + bl n - 53) : mf n * 2 ^ (e + bl n - 53 - c).toNat ≤ n * 2 ^ (e - c).toNat ∧ n * 2 ^ (e - c).toNat ≤ (mf n + if inex n then 1 else 0) * 2 ^ (e + bl n - 53 - c).toNat := by
  by_cases hb : bl n ≤ 53
  · have hm : mf n = n * 2 ^ (53 - bl n) := by unfold mf; rw [if_pos hb]
    have hi : inex n = false := inex_small hb
    have : mf n * 2 ^ (e + bl n - 53 - c).toNat = n * 2 ^ (e - c).toNat := by
      rw [hm, Nat.mul_assoc, ← Nat.pow_add]; congr 2; omega
    rw [hi]
    simp only [Bool.false_eq_true, if_false, Nat.add_zero]
    omega
  · have hm : mf n = n / 2 ^ (bl n - 53) := by unfold mf; rw [if_neg hb]
    have hx : inex n = decide (n % 2 ^ (bl n - 53) ≠ 0) := by unfold inex; simp [show 53 < bl n by omega]
    have hp : 2 ^ (e + bl n - 53 - c).toNat = 2 ^ (bl n - 53) * 2 ^ (e - c).toNat := by rw [← Nat.pow_add]; congr 1; omega
    have hd := Nat.div_add_mod n (2 ^ (bl n - 53))
    have hl := Nat.mod_lt n (Nat.two_pow_pos (bl n - 53))
    rw [hp, ← Nat.mul_assoc, ← Nat.mul_assoc]
    rw [hm, hx]
    constructor
    · apply Nat.mul_le_mul_right
      rw [Nat.mul_comm]; omega
    · apply Nat.mul_le_mul_right
      by_cases hz : n % 2 ^ (bl n - 53) = 0
      · rw [decide_eq_false (by omega)]
        simp only [Bool.false_eq_true, if_false, Nat.add_zero]
        rw [Nat.mul_comm]; omega
      · rw [decide_eq_true hz, if_pos rfl, Nat.add_mul, Nat.one_mul, Nat.mul_comm (n / _)]; omega

theorem wdP_sg (s : Bool) {r : Int} (h : 0 < r) : wdP (sgI s r) = wd s r.toNat := by
  unfold wdP sgI
  cases s
  · rw [if_neg Bool.false_ne_true, decide_eq_false (by omega)]; congr 1; omega
  · rw [if_pos rfl, decide_eq_true (by omega)]; congr 1; omega

theorem plP_sg (s : Bool) {r : Int} (h : plP (sgI s (clampR r)) = true) : 553942754166571008 ≤ r ∧ r ≤ 8660422083433463808 ∧ clampR r = r := by
  unfold plP at h
  rw [decide_eq_true_eq] at h
  have hc := clampR_cases r
  have ha : ((sgI s (clampR r)).natAbs : Int) = clampR r := by
    have := clampR_bounds r
    unfold sgI; cases s
    · rw [if_neg Bool.false_ne_true]; omega
    · rw [if_pos rfl]; omega
  have hz : sgI s (clampR r) ≠ 0 := by
    have := clampR_bounds r
    omega
  omega

theorem plT_zero : plT 0 = (false, 0, 0) := rfl
theorem wdP_zero : wdP 0 = 0 := rfl

theorem means_zero2 {x : Bool × Nat × Int} (h : x.2.1 = 0) (e : Int) : MeansT e 0 x := by
  obtain ⟨s, n, p⟩ := x
  simp only at h
  subst h
  exact means_zero e s p

theorem means_down {e z : Int} {x : Bool × Nat × Int} (h : MeansT e z x) {c : Int} (hc : c ≤ e) : MeansT c (z * ((2 ^ (e - c).toNat : Nat) : Int)) x := by
  have := means_low (s := x.1) (m := x.2.1) (p := x.2.2) h (e - c).toNat
  rwa [show e - ((e - c).toNat : Nat) = c by omega] at this

/-- What stands at a number's lower place is not above it. -/
theorem encl_low {x : Bool × Nat × Int} (h : plP (posV x (-1)) = true) : leV (plT (wdP (posV x (-1)))) x := by
  by_cases h0 : x.2.1 = 0
  · have : posV x (-1) = 0 := by unfold posV; rw [if_pos h0]
    rw [this, wdP_zero, plT_zero]
    exact leV_means (means_zero2 rfl 0) (means_zero2 h0 0) (Int.le_refl _)
  · have hp : posV x (-1) = sgI x.1 (clampR (endR x.1 x.2.1 x.2.2 (-1))) := by unfold posV; rw [if_neg h0]
    rw [hp] at h ⊢
    obtain ⟨a, b, c⟩ := plP_sg x.1 h
    rw [c, wdP_sg x.1 (by omega)]
    obtain ⟨s, n, e⟩ := x
    simp only at *
    have hc := mf_cut n e (min e (e + bl n - 53)) h0 (by omega) (by omega)
    have hx := means_low2 (s, n, e) (e := min e (e + bl n - 53)) (by simp only; omega)
    simp only at hx
    have hend : endR s n e (-1) = rung n e + if s && inex n then 1 else 0 := by unfold endR; rw [offS_down]
    rw [hend] at a b ⊢
    by_cases hs : (s && inex n) = true
    · rw [hs, if_pos rfl] at a b ⊢
      rw [Bool.and_eq_true] at hs
      obtain ⟨rfl, hi⟩ := hs
      have hw := means_down (word_up true h0 a b) (c := min e (e + bl n - 53)) (by omega)
      refine leV_means hw hx ?_
      rw [hi, if_pos rfl] at hc
      rw [sg_mul]
      have := hc.2
      unfold sg; rw [if_pos rfl, if_pos rfl]; omega
    · have hs' : (s && inex n) = false := by cases h : (s && inex n) <;> simp_all
      rw [hs', if_neg Bool.false_ne_true, Int.add_zero] at a b ⊢
      have hw := means_down (word_low s h0 a b) (c := min e (e + bl n - 53)) (by omega)
      refine leV_means hw hx ?_
      rw [sg_mul]
      cases s
      · have := hc.1
        unfold sg; rw [if_neg Bool.false_ne_true, if_neg Bool.false_ne_true]; omega
      · have hi : inex n = false := by simpa using hs'
        rw [hi] at hc
        simp only [Bool.false_eq_true, if_false, Nat.add_zero] at hc
        have := hc.2
        unfold sg; rw [if_pos rfl, if_pos rfl]; omega

/-- What stands at a number's upper place is not below it. -/
theorem encl_high {x : Bool × Nat × Int} (h : plP (posV x 1) = true) : leV x (plT (wdP (posV x 1))) := by
  by_cases h0 : x.2.1 = 0
  · have : posV x 1 = 0 := by unfold posV; rw [if_pos h0]
    rw [this, wdP_zero, plT_zero]
    exact leV_means (means_zero2 h0 0) (means_zero2 rfl 0) (Int.le_refl _)
  · have hp : posV x 1 = sgI x.1 (clampR (endR x.1 x.2.1 x.2.2 1)) := by unfold posV; rw [if_neg h0]
    rw [hp] at h ⊢
    obtain ⟨a, b, c⟩ := plP_sg x.1 h
    rw [c, wdP_sg x.1 (by omega)]
    obtain ⟨s, n, e⟩ := x
    simp only at *
    have hc := mf_cut n e (min e (e + bl n - 53)) h0 (by omega) (by omega)
    have hx := means_low2 (s, n, e) (e := min e (e + bl n - 53)) (by simp only; omega)
    simp only at hx
    have hend : endR s n e 1 = rung n e + if (!s) && inex n then 1 else 0 := by unfold endR; rw [offS_up]
    rw [hend] at a b ⊢
    by_cases hs : ((!s) && inex n) = true
    · rw [hs, if_pos rfl] at a b ⊢
      rw [Bool.and_eq_true] at hs
      obtain ⟨hs1, hi⟩ := hs
      have hs2 : s = false := by cases s <;> simp_all
      subst hs2
      have hw := means_down (word_up false h0 a b) (c := min e (e + bl n - 53)) (by omega)
      refine leV_means hx hw ?_
      rw [hi, if_pos rfl] at hc
      rw [sg_mul]
      have := hc.2
      unfold sg; rw [if_neg Bool.false_ne_true, if_neg Bool.false_ne_true]; omega
    · have hs' : ((!s) && inex n) = false := by cases h : ((!s) && inex n) <;> simp_all
      rw [hs', if_neg Bool.false_ne_true, Int.add_zero] at a b ⊢
      have hw := means_down (word_low s h0 a b) (c := min e (e + bl n - 53)) (by omega)
      refine leV_means hx hw ?_
      rw [sg_mul]
      cases s
      · have hi : inex n = false := by simpa using hs'
        rw [hi] at hc
        simp only [Bool.false_eq_true, if_false, Nat.add_zero] at hc
        have := hc.2
        unfold sg; rw [if_neg Bool.false_ne_true, if_neg Bool.false_ne_true]; omega
      · have := hc.1
        unfold sg; rw [if_pos rfl, if_pos rfl]; omega

/-- Numbers that are not above each other mean the same. -/
theorem means_anti {e z : Int} {x y : Bool × Nat × Int} (hx : MeansT e z x) (h1 : leV x y) (h2 : leV y x) : MeansT e z y := by
  have key : ∀ c, c ≤ x.2.2 → c ≤ y.2.2 → sg x.1 (x.2.1 * 2 ^ (x.2.2 - c).toNat) = sg y.1 (y.2.1 * 2 ^ (y.2.2 - c).toNat) := by
    intro c a b
    have p1 : ∀ u v : Bool × Nat × Int, c ≤ u.2.2 → c ≤ v.2.2 → leV u v → sg u.1 (u.2.1 * 2 ^ (u.2.2 - c).toNat) ≤ sg v.1 (v.2.1 * 2 ^ (v.2.2 - c).toNat) := by
      intro u v hu hv h
      unfold leV lvA lvB at h
      have hm := Int.mul_le_mul_of_nonneg_right h (Int.natCast_nonneg (2 ^ (min u.2.2 v.2.2 - c).toNat))
      rw [sg_mul, sg_mul, Nat.mul_assoc, Nat.mul_assoc, ← Nat.pow_add, ← Nat.pow_add] at hm
      rwa [show (u.2.2 - min u.2.2 v.2.2).toNat + (min u.2.2 v.2.2 - c).toNat = (u.2.2 - c).toNat by omega, show (v.2.2 - min u.2.2 v.2.2).toNat + (min u.2.2 v.2.2 - c).toNat = (v.2.2 - c).toNat by omega] at hm
    exact Int.le_antisymm (p1 x y a b h1) (p1 y x b a h2)
  refine means_of (min (min x.2.2 y.2.2) e) (by omega) (by omega) ?_
  rw [← key _ (by omega) (by omega)]
  exact hx _ (by omega) (by omega)
end Go.Proofs.YtonhpkigoplmaaaGreatDoor
namespace Go.Proofs.YtonhpkigoplmaaaGreatDoor
open Go.RowKit Go.Extern Ieee

theorem posV_le (x : Bool × Nat × Int) : posV x (-1) ≤ posV x 1 := by
  obtain ⟨s, n, e⟩ := x
  unfold posV
  simp only
  by_cases h0 : n = 0
  · rw [if_pos h0, if_pos h0]; exact Int.le_refl _
  · rw [if_neg h0, if_neg h0]
    have h1 : endR s n e (-1) = rung n e + if s && inex n then 1 else 0 := by unfold endR; rw [offS_down]
    have h2 : endR s n e 1 = rung n e + if (!s) && inex n then 1 else 0 := by unfold endR; rw [offS_up]
    unfold sgI
    cases s
    · rw [if_neg Bool.false_ne_true, if_neg Bool.false_ne_true]
      apply clampR_mono
      rw [h1, h2]
      simp only [Bool.false_and, Bool.false_eq_true, if_false]
      split <;> omega
    · rw [if_pos rfl, if_pos rfl]
      have : clampR (endR true n e 1) ≤ clampR (endR true n e (-1)) := by
        apply clampR_mono
        rw [h1, h2]
        simp only [Bool.not_true, Bool.false_and, Bool.false_eq_true, if_false]
        split <;> omega
      omega

theorem fr_wdP {x : Bool × Nat × Int} {way : Int} (h : plP (posV x way) = true) : FR (wdP (posV x way)) (posV x way) := by
  by_cases h0 : x.2.1 = 0
  · have : posV x way = 0 := by unfold posV; rw [if_pos h0]
    rw [this, wdP_zero]; exact FR_zero
  · have hp : posV x way = sgI x.1 (clampR (endR x.1 x.2.1 x.2.2 way)) := by unfold posV; rw [if_neg h0]
    have h' := h
    rw [hp] at h'
    obtain ⟨a, b, c⟩ := plP_sg x.1 h'
    have hw : wdP (posV x way) = wd x.1 (endR x.1 x.2.1 x.2.2 way).toNat := by rw [hp, c, wdP_sg x.1 (by omega)]
    rw [hw]
    exact FR_end x.1 way h0 (by omega) (by omega)

theorem iv_wdP {x y : Bool × Nat × Int} {wx wy : Int} (h1 : plP (posV x wx) = true) (h2 : plP (posV y wy) = true) (hle : posV x wx ≤ posV y wy) : Iv (wdP (posV x wx)) (wdP (posV y wy)) := by
  have f1 := fr_wdP h1
  have f2 := fr_wdP h2
  exact ⟨f1.lt, f2.lt, f1.nz, f2.nz, plT_some (by rw [f1.plain]; exact h1), plT_some (by rw [f2.plain]; exact h2), by rw [f1.pos, f2.pos]; exact hle⟩

theorem make_iv {l h : Nat} (i : Iv l h) : makeN l h = (l, h, 0) := by
  have e1 : posW l = l := by
    unfold posW
    by_cases hz : l % 9223372036854775808 = 0
    · rw [if_pos hz]; have := i.lt1; have := i.z1; omega
    · rw [if_neg hz]
  have e2 : posW h = h := by
    unfold posW
    by_cases hz : h % 9223372036854775808 = 0
    · rw [if_pos hz]; have := i.lt2; have := i.z2; omega
    · rw [if_neg hz]
  have hl : lessW h l = false := by
    show lessT (plT h) (plT l) = false
    rw [lessT_pos i i.low]
    exact decide_eq_false (by have := i.le; omega)
  unfold makeN
  rw [if_neg (by rw [i.p1, i.p2]; simp), hl, if_neg Bool.false_ne_true, e1, e2]

/-- The float below, above a whole number. -/
def fl (n : Int) : Nat := wdP (posV (wholeN n) (-1))
def fh (n : Int) : Nat := wdP (posV (wholeN n) 1)

theorem plP_whole {n : Int} (h : n.natAbs ≤ 1152921504606846976) (way : Int) : plP (posV (wholeN n) way) = true := by
  by_cases h0 : n.natAbs = 0
  · have : posV (wholeN n) way = 0 := by unfold posV wholeN; rw [if_pos h0]
    rw [this]; rfl
  · have hp : posV (wholeN n) way = sgI (decide (n < 0)) (clampR (endR (decide (n < 0)) n.natAbs 0 way)) := by unfold posV wholeN; rw [if_neg h0]
    rw [hp]
    have hb : bl n.natAbs ≤ 61 := bl_le (Nat.lt_of_le_of_lt h (by decide))
    have hb1 := bl_pos (n := n.natAbs) (by omega)
    have rb := rung_bounds 0 h0
    have eb := endR_bounds (decide (n < 0)) (n := n.natAbs) 0 way
    generalize endR (decide (n < 0)) n.natAbs 0 way = r at *
    have hc : clampR r = r := by have := clampR_cases r; omega
    rw [hc]
    unfold plP sgI
    rw [decide_eq_true_eq]
    right
    cases decide (n < 0)
    · rw [if_neg Bool.false_ne_true]; omega
    · rw [if_pos rfl]; omega

theorem iv_whole {n : Int} (h : n.natAbs ≤ 1152921504606846976) : Iv (fl n) (fh n) := iv_wdP (plP_whole h _) (plP_whole h _) (posV_le _)

theorem exact_whole {n : Int} (h : n.natAbs ≤ 1152921504606846976) : refExactN 2 n = (fl n, fh n, 0) := by
  unfold refExactN
  rw [if_pos (Or.inr rfl), aroundN_posV, boxP_plain (plP_whole h _) (plP_whole h _)]
  rfl

theorem low_whole {n : Int} (h : n.natAbs ≤ 1152921504606846976) : lessT (wholeN n) (plT (fl n)) = false := by
  have hx := means_low2 (wholeN n) (e := min (wholeN n).2.2 (plT (fl n)).2.2) (by omega)
  have hy := means_low2 (plT (fl n)) (e := min (wholeN n).2.2 (plT (fl n)).2.2) (by omega)
  cases hl : lessT (wholeN n) (plT (fl n))
  · rfl
  · exfalso
    have h1 := (lessT_means hx hy).1 hl
    have h2 : leV (plT (fl n)) (wholeN n) := encl_low (plP_whole h _)
    unfold leV lvA lvB at h2
    rw [show min (plT (fl n)).2.2 (wholeN n).2.2 = min (wholeN n).2.2 (plT (fl n)).2.2 by omega] at h2
    omega
theorem high_whole {n : Int} (h : n.natAbs ≤ 1152921504606846976) : lessT (plT (fh n)) (wholeN n) = false := by
  have hx := means_low2 (wholeN n) (e := min (wholeN n).2.2 (plT (fh n)).2.2) (by omega)
  have hy := means_low2 (plT (fh n)) (e := min (wholeN n).2.2 (plT (fh n)).2.2) (by omega)
  cases hl : lessT (plT (fh n)) (wholeN n)
  · rfl
  · exfalso
    have h1 := (lessT_means hy hx).1 hl
    have h2 : leV (wholeN n) (plT (fh n)) := encl_high (plP_whole h _)
    unfold leV lvA lvB at h2
    omega

theorem same_whole {n : Int} (h : n.natAbs < 9007199254740992) : fh n = fl n ∧ posV (wholeN n) 1 = posV (wholeN n) (-1) := by
  have : posV (wholeN n) 1 = posV (wholeN n) (-1) := by
    have hi : inex n.natAbs = false := inex_small (bl_le (by rw [p53]; exact h))
    unfold posV wholeN endR
    simp only [hi, Bool.and_false]
  exact ⟨by unfold fh fl; rw [this], this⟩

/-- A small whole number's float means it. -/
theorem means_fl {n : Int} (h : n.natAbs < 9007199254740992) : MeansT 0 n (plT (fl n)) := by
  have h' : n.natAbs ≤ 1152921504606846976 := by omega
  have h1 : leV (plT (fl n)) (wholeN n) := encl_low (plP_whole h' _)
  have h2 : leV (wholeN n) (plT (fh n)) := encl_high (plP_whole h' _)
  rw [(same_whole h).1] at h2
  exact means_anti (means_self 0 n) h2 h1

theorem pos_whole {n : Int} {x : Bool × Nat × Int} (h : MeansT 0 n x) {way : Int} (hw : way = -1 ∨ way = 1) : posV x way = posV (wholeN n) way := posV_means h way hw

theorem box_whole {n : Int} {x : Bool × Nat × Int} (hx : MeansT 0 n x) (h : n.natAbs ≤ 1152921504606846976) : boxP (posV x (-1)) (posV x 1) = (fl n, fh n, 0) := by
  rw [pos_whole hx (Or.inl rfl), pos_whole hx (Or.inr rfl), boxP_plain (plP_whole h _) (plP_whole h _)]
  rfl

theorem means_prod {a b : Int} {x y : Bool × Nat × Int} (hx : MeansT 0 a x) (hy : MeansT 0 b y) : MeansT 0 (a * b) (prodN x y) := by
  have h : Means (0 + 0) (a * b) (x.1 ^^ y.1) (x.2.1 * y.2.1) (x.2.2 + y.2.2) := mul_means hx hy
  by_cases h0 : x.2.1 * y.2.1 = 0
  · have hz : a * b = 0 := by
      have := h (min 0 (x.2.2 + y.2.2)) (by omega) (by omega)
      rw [h0, Nat.zero_mul] at this
      have hp := Nat.two_pow_pos ((0 : Int) + 0 - min 0 (x.2.2 + y.2.2)).toNat
      have e0 : sg (x.1 ^^ y.1) 0 = 0 := by unfold sg; split <;> rfl
      rw [e0] at this
      rcases Int.mul_eq_zero.1 this.symm with h | h
      · exact h
      · omega
    rw [hz]
    exact means_zero2 (x := prodN x y) h0 0
  · have : prodN x y = ((x.1 ^^ y.1), x.2.1 * y.2.1, x.2.2 + y.2.2) := by
      unfold prodN
      rw [decide_eq_true h0, Bool.and_true]
    rw [this]
    exact h

theorem add_whole {a b : Int} (ha : a.natAbs ≤ 1073741824) (hb : b.natAbs ≤ 1073741824) : refOpN 3 (plT (fl a)) (plT (fh a)) (plT (fl b)) (plT (fh b)) = (fl (a + b), fh (a + b), 0, ⟨#[]⟩) := by
  rw [(same_whole (n := a) (by omega)).1, (same_whole (n := b) (by omega)).1]
  have hz : MeansT 0 (a + b) (sumT (plT (fl a)) (plT (fl b))) := sumN_means (means_fl (by omega)) (means_fl (by omega))
  show nameT (aroundN (sumT (plT (fl a)) (plT (fl b))) (sumT (plT (fl a)) (plT (fl b)))) ⟨#[43]⟩ = _
  rw [aroundN_posV, box_whole hz (by omega)]
  rfl

theorem sub_whole {a b : Int} (ha : a.natAbs ≤ 1073741824) (hb : b.natAbs ≤ 1073741824) : refOpN 4 (plT (fl a)) (plT (fh a)) (plT (fl b)) (plT (fh b)) = (fl (a - b), fh (a - b), 0, ⟨#[]⟩) := by
  rw [(same_whole (n := a) (by omega)).1, (same_whole (n := b) (by omega)).1]
  have hz : MeansT 0 (a + -b) (sumT (plT (fl a)) (negT (plT (fl b)))) := sumN_means (means_fl (by omega)) (means_neg (means_fl (by omega)))
  show nameT (aroundN (sumT (plT (fl a)) (negT (plT (fl b)))) (sumT (plT (fl a)) (negT (plT (fl b))))) ⟨#[45]⟩ = _
  rw [aroundN_posV, box_whole hz (by omega)]
  rfl

theorem mul_abs {a b : Int} (ha : a.natAbs ≤ 1073741824) (hb : b.natAbs ≤ 1073741824) : (a * b).natAbs ≤ 1152921504606846976 := by
  rw [Int.natAbs_mul]
  exact Nat.le_trans (Nat.mul_le_mul ha hb) (by decide)

theorem mul_whole {a b : Int} (ha : a.natAbs ≤ 1073741824) (hb : b.natAbs ≤ 1073741824) : refOpN 5 (plT (fl a)) (plT (fh a)) (plT (fl b)) (plT (fh b)) = (fl (a * b), fh (a * b), 0, ⟨#[]⟩) := by
  rw [(same_whole (n := a) (by omega)).1, (same_whole (n := b) (by omega)).1]
  have hz : MeansT 0 (a * b) (prodN (plT (fl a)) (plT (fl b))) := means_prod (means_fl (by omega)) (means_fl (by omega))
  show nameT (spanT (prodN (plT (fl a)) (plT (fl b))) (prodN (plT (fl a)) (plT (fl b))) (prodN (plT (fl a)) (plT (fl b))) (prodN (plT (fl a)) (plT (fl b)))) ⟨#[42]⟩ = _
  rw [span_posV, Int.min_self, Int.min_self, Int.min_self, Int.max_self, Int.max_self, Int.max_self, box_whole hz (mul_abs ha hb)]
  rfl
end Go.Proofs.YtonhpkigoplmaaaGreatDoor
namespace Go.Proofs.YtonhpkigoplmaaaGreatDoor
open Go.RowKit Go.Extern Ieee

theorem mag_le {n m X A : Nat} (hm : 0 < m) (hX : X = n) (h : n ≤ A * m) : 2 * (X / m) + (if X % m = 0 then 0 else 1) ≤ 2 * A := by
  subst hX
  have hd := Nat.div_add_mod X m
  have hl := Nat.mod_lt X hm
  have h1 : X / m ≤ A := by
    have := Nat.div_le_div_right (c := m) h
    rwa [Nat.mul_div_cancel _ hm] at this
  by_cases hz : X % m = 0
  · rw [if_pos hz]; omega
  · rw [if_neg hz]
    have : X / m ≠ A := by
      intro hc
      rw [hc, Nat.mul_comm] at hd
      omega
    omega

theorem mag_ge {n m X A : Nat} (hm : 0 < m) (hX : X = n) (h : A * m ≤ n) : 2 * A ≤ 2 * (X / m) + (if X % m = 0 then 0 else 1) := by
  subst hX
  have h1 : A ≤ X / m := (Nat.le_div_iff_mul_le hm).2 h
  omega

/-- The float of a whole number. -/
theorem num_fl {n : Int} (h0 : n ≠ 0) (h : n.natAbs ≤ 1152921504606846976) (way : Int) : ∃ m e, plT (wdP (posV (wholeN n) way)) = (decide (n < 0), m, e) ∧ 4503599627370496 ≤ m ∧ m < 9007199254740992 ∧ ((bl n.natAbs : Nat) : Int) - 53 ≤ e ∧ e ≤ ((bl n.natAbs : Nat) : Int) - 52 := by
  have hn : n.natAbs ≠ 0 := by omega
  have hp : posV (wholeN n) way = sgI (decide (n < 0)) (clampR (endR (decide (n < 0)) n.natAbs 0 way)) := by unfold posV wholeN; rw [if_neg hn]
  have hpl := plP_whole h way
  rw [hp] at hpl
  obtain ⟨a, b, c⟩ := plP_sg _ hpl
  have rb := rung_bounds 0 hn
  have eb := endR_bounds (decide (n < 0)) (n := n.natAbs) 0 way
  rw [hp, c, wdP_sg _ (by omega)]
  generalize endR (decide (n < 0)) n.natAbs 0 way = r at *
  have hw := plT_wd (decide (n < 0)) (r := r.toNat) (by omega) (by omega)
  refine ⟨r.toNat % 4503599627370496 + 4503599627370496, ((r.toNat / 4503599627370496 : Nat) : Int) - 1075, ?_, by omega, by omega, by omega, by omega⟩
  unfold plT; rw [hw]; rfl

theorem bl_norm {m : Nat} (h1 : 4503599627370496 ≤ m) (h2 : m < 9007199254740992) : bl m = 53 := bl53 h1 h2

def quoM (n m : Nat) : Nat := 2 * (n * 2 ^ 113 / m) + if n * 2 ^ 113 % m = 0 then 0 else 1

theorem quoM_bounds {n m : Nat} (h1 : 4503599627370496 ≤ n) (h2 : n < 9007199254740992) (h3 : 4503599627370496 ≤ m) (h4 : m < 9007199254740992) : 114 ≤ bl (quoM n m) ∧ bl (quoM n m) ≤ 115 ∧ quoM n m ≠ 0 := by
  have a1 : 2 ^ 112 ≤ n * 2 ^ 113 / m := (Nat.le_div_iff_mul_le (by omega)).2 (by omega)
  have a2 : n * 2 ^ 113 / m < 2 ^ 114 := (Nat.div_lt_iff_lt_mul (by omega)).2 (by omega)
  have hlt : quoM n m < 2 ^ 115 := by unfold quoM; split <;> omega
  have hge : 2 ^ 113 ≤ quoM n m := by unfold quoM; split <;> omega
  refine ⟨?_, bl_le hlt, by omega⟩
  apply Decidable.byContradiction
  intro hc
  have h5 := lt_bl (quoM n m)
  have h6 : 2 ^ bl (quoM n m) ≤ 2 ^ 113 := Nat.pow_le_pow_right (by decide) (by omega)
  omega

theorem quoN_norm {s t : Bool} {n m : Nat} {e f : Int} (h1 : 4503599627370496 ≤ n) (h2 : n < 9007199254740992) (h3 : 4503599627370496 ≤ m) (h4 : m < 9007199254740992) : quoN (s, n, e) (t, m, f) = ((s != t), quoM n m, e - 113 - f - 1) := by
  have hb := (quoM_bounds h1 h2 h3 h4).2.2
  unfold quoN markN
  simp only
  rw [bl_norm h3 h4]
  have e1 : 2 * (n * 2 ^ (60 + 53) / m) + (if decide (n * 2 ^ (60 + 53) % m = 0) = true then 0 else 1) = quoM n m := by unfold quoM; simp
  rw [e1, decide_eq_true hb, Bool.and_true]
  rfl

theorem plP_quo {s t : Bool} {n m : Nat} {e f : Int} (h1 : 4503599627370496 ≤ n) (h2 : n < 9007199254740992) (h3 : 4503599627370496 ≤ m) (h4 : m < 9007199254740992) (e1 : -52 ≤ e) (e2 : e ≤ 9) (f1 : -52 ≤ f) (f2 : f ≤ 9) (way : Int) : plP (posV (quoN (s, n, e) (t, m, f)) way) = true := by
  rw [quoN_norm h1 h2 h3 h4]
  obtain ⟨b1, b2, b3⟩ := quoM_bounds h1 h2 h3 h4
  have hp : posV ((s != t), quoM n m, e - 113 - f - 1) way = sgI (s != t) (clampR (endR (s != t) (quoM n m) (e - 113 - f - 1) way)) := by unfold posV; rw [if_neg b3]
  rw [hp]
  have rb := rung_bounds (e - 113 - f - 1) b3
  have eb := endR_bounds (s != t) (n := quoM n m) (e - 113 - f - 1) way
  generalize endR (s != t) (quoM n m) (e - 113 - f - 1) way = r at *
  have hc : clampR r = r := by have := clampR_cases r; omega
  rw [hc]
  unfold plP sgI
  rw [decide_eq_true_eq]
  right
  cases (s != t)
  · rw [if_neg Bool.false_ne_true]; omega
  · rw [if_pos rfl]; omega

theorem sg_le {s : Bool} {x y : Nat} : (s = false → (sg s x ≤ sg s y ↔ x ≤ y)) ∧ (s = true → (sg s x ≤ sg s y ↔ y ≤ x)) := by
  unfold sg
  constructor
  · rintro rfl; simp
  · rintro rfl; simp

/-- A quotient beside a whole number: both as whole numbers of one power of two. -/
theorem quo_core {a b : Int} {s : Bool} {n m : Nat} {e f : Int} (ha : a ≠ 0) (hb : b ≠ 0) (hs : s = decide (a * b < 0)) (h1 : 4503599627370496 ≤ n) (h2 : n < 9007199254740992) (h3 : 4503599627370496 ≤ m) (h4 : m < 9007199254740992) (e1 : -52 ≤ e) (e2 : e ≤ 9) (f1 : -52 ≤ f) (f2 : f ≤ 0) (hG : MeansT 0 b (decide (b < 0), m, f)) :
    (leV (s, n, e) (wholeN (a * b)) → (0 < b → leV (quoN (s, n, e) (decide (b < 0), m, f)) (wholeN a)) ∧ (b < 0 → leV (wholeN a) (quoN (s, n, e) (decide (b < 0), m, f)))) ∧
    (leV (wholeN (a * b)) (s, n, e) → (0 < b → leV (wholeN a) (quoN (s, n, e) (decide (b < 0), m, f))) ∧ (b < 0 → leV (quoN (s, n, e) (decide (b < 0), m, f)) (wholeN a))) := by
  have hm : m = b.natAbs * 2 ^ (-f).toNat := by
    have := hG f (by simp) (by omega)
    simp only [Int.sub_self, Int.toNat_zero, Nat.pow_zero, Nat.mul_one] at this
    have h := congrArg Int.natAbs this
    rw [Int.natAbs_mul, Int.natAbs_natCast] at h
    rw [show (sg (decide (b < 0)) m).natAbs = m by unfold sg; split <;> omega] at h
    rw [h]
    congr 2
    omega
  obtain ⟨b1, b2, b3⟩ := quoM_bounds h1 h2 h3 h4
  have hq : MeansT (e - 113 - f - 1) (sg (s != decide (b < 0)) (quoM n m)) (quoN (s, n, e) (decide (b < 0), m, f)) := by
    rw [quoN_norm h1 h2 h3 h4]
    have := means_high (s := s != decide (b < 0)) (m := quoM n m) (k := 0) (E := e - 113 - f - 1)
    simpa using this
  have hA : MeansT (e - 113 - f - 1) (a * ((2 ^ (0 - (e - 113 - f - 1)).toNat : Nat) : Int)) (wholeN a) := means_down (means_self 0 a) (by omega)
  have hj : (0 - (e - 113 - f - 1)).toNat = (113 + f - e).toNat + 1 := by omega
  rw [hj, Nat.pow_succ] at hA
  generalize hA' : a.natAbs * 2 ^ (113 + f - e).toNat = A' at *
  have hsa : a * ((2 ^ (113 + f - e).toNat * 2 : Nat) : Int) = sg (s != decide (b < 0)) (2 * A') := by
    have hsg : (s != decide (b < 0)) = decide (a < 0) := by
      rw [hs]
      rcases Int.lt_or_gt_of_ne ha with ha' | ha' <;> rcases Int.lt_or_gt_of_ne hb with hb' | hb'
      · rw [decide_eq_false (Int.not_lt.2 (Int.le_of_lt (Int.mul_pos_of_neg_of_neg ha' hb'))), decide_eq_true hb', decide_eq_true ha']; rfl
      · rw [decide_eq_true (Int.mul_neg_of_neg_of_pos ha' hb'), decide_eq_false (by omega), decide_eq_true ha']; rfl
      · rw [decide_eq_true (Int.mul_neg_of_pos_of_neg ha' hb'), decide_eq_true hb', decide_eq_false (by omega)]; rfl
      · rw [decide_eq_false (Int.not_lt.2 (Int.le_of_lt (Int.mul_pos ha' hb'))), decide_eq_false (by omega), decide_eq_false (by omega)]; rfl
    rw [hsg, ← hA']
    generalize 2 ^ (113 + f - e).toNat = g
    unfold sg
    by_cases h : a < 0
    · rw [decide_eq_true h, if_pos rfl]
      rw [show a = -((a.natAbs : Nat) : Int) by omega, Int.natAbs_neg, Int.natAbs_natCast, Int.neg_mul, ← Int.natCast_mul]
      congr 2
      rw [Nat.mul_comm g 2, ← Nat.mul_assoc, Nat.mul_comm a.natAbs 2, Nat.mul_assoc]
    · rw [decide_eq_false h, if_neg Bool.false_ne_true]
      rw [show a = ((a.natAbs : Nat) : Int) by omega, Int.natAbs_natCast, ← Int.natCast_mul]
      congr 1
      rw [Nat.mul_comm g 2, ← Nat.mul_assoc, Nat.mul_comm a.natAbs 2, Nat.mul_assoc]
  rw [hsa] at hA
  -- the magnitudes
  have hmul : A' * m = (a * b).natAbs * 2 ^ (113 - e).toNat := by
    rw [← hA', hm, Int.natAbs_mul]
    rw [show (113 - e).toNat = (113 + f - e).toNat + (-f).toNat by omega, Nat.pow_add]
    generalize 2 ^ (113 + f - e).toNat = g
    generalize 2 ^ (-f).toNat = h
    rw [Nat.mul_assoc, Nat.mul_assoc, ← Nat.mul_assoc g, Nat.mul_comm g b.natAbs, Nat.mul_assoc]
  have scale : ∀ x y : Nat, x * 2 ^ (e - min e 0).toNat ≤ y * 2 ^ (0 - min e 0).toNat ↔ x * 2 ^ 113 ≤ y * 2 ^ (113 - e).toNat := by
    intro x y
    have k1 : x * 2 ^ 113 = x * 2 ^ (e - min e 0).toNat * 2 ^ (113 - e + min e 0).toNat := by rw [Nat.mul_assoc, ← Nat.pow_add]; congr 2; omega
    have k2 : y * 2 ^ (113 - e).toNat = y * 2 ^ (0 - min e 0).toNat * 2 ^ (113 - e + min e 0).toNat := by rw [Nat.mul_assoc, ← Nat.pow_add]; congr 2; omega
    rw [k1, k2]
    exact ⟨fun h => Nat.mul_le_mul_right _ h, fun h => Nat.le_of_mul_le_mul_right h (Nat.two_pow_pos _)⟩
  have scale2 : ∀ x y : Nat, y * 2 ^ (0 - min e 0).toNat ≤ x * 2 ^ (e - min e 0).toNat ↔ y * 2 ^ (113 - e).toNat ≤ x * 2 ^ 113 := by
    intro x y
    have k1 : x * 2 ^ 113 = x * 2 ^ (e - min e 0).toNat * 2 ^ (113 - e + min e 0).toNat := by rw [Nat.mul_assoc, ← Nat.pow_add]; congr 2; omega
    have k2 : y * 2 ^ (113 - e).toNat = y * 2 ^ (0 - min e 0).toNat * 2 ^ (113 - e + min e 0).toNat := by rw [Nat.mul_assoc, ← Nat.pow_add]; congr 2; omega
    rw [k1, k2]
    exact ⟨fun h => Nat.mul_le_mul_right _ h, fun h => Nat.le_of_mul_le_mul_right h (Nat.two_pow_pos _)⟩
  have mle : n * 2 ^ 113 ≤ A' * m → quoM n m ≤ 2 * A' := fun h => mag_le (by omega) rfl h
  have mge : A' * m ≤ n * 2 ^ 113 → 2 * A' ≤ quoM n m := fun h => mag_ge (by omega) rfl h
  have c0 : leV (s, n, e) (wholeN (a * b)) → (s = false → n * 2 ^ 113 ≤ A' * m) ∧ (s = true → A' * m ≤ n * 2 ^ 113) := by
    intro h
    unfold leV lvA lvB wholeN at h
    simp only at h
    rw [← hs] at h
    rw [hmul]
    exact ⟨fun hf => (scale _ _).1 ((sg_le.1 hf).1 h), fun ht => (scale2 _ _).1 ((sg_le.2 ht).1 h)⟩
  have c1 : leV (wholeN (a * b)) (s, n, e) → (s = false → A' * m ≤ n * 2 ^ 113) ∧ (s = true → n * 2 ^ 113 ≤ A' * m) := by
    intro h
    unfold leV lvA lvB wholeN at h
    simp only at h
    rw [← hs, show min (0 : Int) e = min e 0 by omega] at h
    rw [hmul]
    exact ⟨fun hf => (scale2 _ _).1 ((sg_le.1 hf).1 h), fun ht => (scale _ _).1 ((sg_le.2 ht).1 h)⟩
  clear scale scale2 hmul hsa hj hA' hm hG hs
  constructor
  · intro h
    obtain ⟨d1, d2⟩ := c0 h
    constructor
    · intro hb'
      refine leV_means hq hA ?_
      rw [decide_eq_false (by omega), Bool.bne_false]
      cases s
      · exact (sg_le.1 rfl).2 (mle (d1 rfl))
      · exact (sg_le.2 rfl).2 (mge (d2 rfl))
    · intro hb'
      refine leV_means hA hq ?_
      rw [decide_eq_true hb']
      cases s
      · exact (sg_le.2 rfl).2 (mle (d1 rfl))
      · exact (sg_le.1 rfl).2 (mge (d2 rfl))
  · intro h
    obtain ⟨d1, d2⟩ := c1 h
    constructor
    · intro hb'
      refine leV_means hA hq ?_
      rw [decide_eq_false (by omega), Bool.bne_false]
      cases s
      · exact (sg_le.1 rfl).2 (mge (d1 rfl))
      · exact (sg_le.2 rfl).2 (mle (d2 rfl))
    · intro hb'
      refine leV_means hq hA ?_
      rw [decide_eq_true hb']
      cases s
      · exact (sg_le.2 rfl).2 (mge (d1 rfl))
      · exact (sg_le.1 rfl).2 (mle (d2 rfl))
end Go.Proofs.YtonhpkigoplmaaaGreatDoor
namespace Go.Proofs.YtonhpkigoplmaaaGreatDoor
open Go.RowKit Go.Extern Ieee

theorem lessT_left {e z : Int} {x x' : Bool × Nat × Int} (h : MeansT e z x) (h' : MeansT e z x') (y : Bool × Nat × Int) : lessT x y = lessT x' y ∧ lessT y x = lessT y x' := by
  have hy := means_low2 y (e := min e y.2.2) (by omega)
  have a := means_down h (c := min e y.2.2) (by omega)
  have b := means_down h' (c := min e y.2.2) (by omega)
  have l1 := lessT_means a hy
  have l2 := lessT_means b hy
  have l3 := lessT_means hy a
  have l4 := lessT_means hy b
  exact ⟨Bool.eq_iff_iff.2 (l1.trans l2.symm), Bool.eq_iff_iff.2 (l3.trans l4.symm)⟩

theorem fl_zero : fl 0 = 0 := rfl
theorem fh_zero : fh 0 = 0 := rfl

theorem div_zero_whole (x y : Bool × Nat × Int) : refOpN 6 x y (plT (fl 0)) (plT (fh 0)) = (0, 0, 4, ⟨#[47]⟩) := by
  rw [fl_zero, fh_zero, plT_zero]
  rfl

theorem posF_fl {n : Int} (h : n.natAbs ≤ 1152921504606846976) : posF (fl n) = posV (wholeN n) (-1) := (fr_wdP (plP_whole h _)).pos

theorem span_two (x y : Bool × Nat × Int) : spanT x x y y = boxP (min (posV x (-1)) (posV y (-1))) (max (posV x 1) (posV y 1)) := by
  rw [span_posV]
  congr 1 <;> omega

theorem pick_min (x y : Bool × Nat × Int) : ∃ z, (z = x ∨ z = y) ∧ min (posV x (-1)) (posV y (-1)) = posV z (-1) := by
  rcases Int.le_total (posV x (-1)) (posV y (-1)) with h | h
  · exact ⟨x, .inl rfl, by omega⟩
  · exact ⟨y, .inr rfl, by omega⟩
theorem pick_max (x y : Bool × Nat × Int) : ∃ z, (z = x ∨ z = y) ∧ max (posV x 1) (posV y 1) = posV z 1 := by
  rcases Int.le_total (posV x 1) (posV y 1) with h | h
  · exact ⟨y, .inr rfl, by omega⟩
  · exact ⟨x, .inl rfl, by omega⟩

theorem div_whole {a b : Int} (ha : a.natAbs ≤ 1073741824) (hb : b.natAbs ≤ 1073741824) (hb0 : b ≠ 0) :
    ∃ l h, refOpN 6 (plT (fl (a * b))) (plT (fh (a * b))) (plT (fl b)) (plT (fh b)) = (l, h, 0, ⟨#[]⟩) ∧ Iv l h ∧ lessT (wholeN a) (plT l) = false ∧ lessT (plT h) (wholeN a) = false := by
  have hsb := (same_whole (n := b) (by omega)).1
  obtain ⟨m, f, hG, m1, m2, f1, f2⟩ := num_fl hb0 (by omega) (-1)
  have hG' : plT (fl b) = (decide (b < 0), m, f) := hG
  have hMG := means_fl (n := b) (by omega)
  rw [hG'] at hMG
  have hblb : bl b.natAbs ≤ 31 := bl_le (Nat.lt_of_le_of_lt hb (by decide))
  have hblb1 := bl_pos (n := b.natAbs) (by omega)
  have hz : holdsT (plT (fl b)) (plT (fh b)) = false := by
    rw [hsb, hG']
    unfold holdsT sgnI
    simp only
    rw [if_neg (by omega)]
    cases decide (b < 0) <;> rfl
  have hun : refOpN 6 (plT (fl (a * b))) (plT (fh (a * b))) (plT (fl b)) (plT (fh b)) = nameT (spanT (quoN (plT (fl (a * b))) (plT (fl b))) (quoN (plT (fl (a * b))) (plT (fh b))) (quoN (plT (fh (a * b))) (plT (fl b))) (quoN (plT (fh (a * b))) (plT (fh b)))) ⟨#[47]⟩ := by
    show (if holdsT (plT (fl b)) (plT (fh b)) = true then _ else _) = _
    rw [hz, if_neg Bool.false_ne_true]
  rw [hun, hsb, hG', span_two]
  have hwa : a.natAbs ≤ 1152921504606846976 := by omega
  have hma : MeansT 0 a (wholeN a) := means_self 0 a
  have hmf := means_fl (n := a) (by omega)
  have hsa := same_whole (n := a) (by omega)
  have iva : Iv (fl a) (fl a) := (iv_whole hwa).low
  have hpf := posF_fl hwa
  by_cases ha0 : a = 0
  · subst ha0
    rw [Int.zero_mul, fl_zero, fh_zero, plT_zero]
    have hq : ∀ way, posV (quoN (false, 0, 0) (decide (b < 0), m, f)) way = 0 := by
      intro way
      unfold posV quoN markN
      simp
    rw [hq, hq]
    exact ⟨0, 0, rfl, ⟨by omega, by omega, by omega, by omega, rfl, rfl, Int.le_refl _⟩, lessT_self _, lessT_self _⟩
  · have hab0 : a * b ≠ 0 := fun h => by rcases Int.mul_eq_zero.1 h with h | h <;> contradiction
    have hab := mul_abs ha hb
    have hbl : bl (a * b).natAbs ≤ 61 := bl_le (Nat.lt_of_le_of_lt hab (by decide))
    have hbl1 := bl_pos (n := (a * b).natAbs) (by omega)
    obtain ⟨n, e, hL, n1, n2, e1, e2⟩ := num_fl hab0 hab (-1)
    obtain ⟨n', e', hH, n1', n2', e1', e2'⟩ := num_fl hab0 hab 1
    have hL' : plT (fl (a * b)) = (decide (a * b < 0), n, e) := hL
    have hH' : plT (fh (a * b)) = (decide (a * b < 0), n', e') := hH
    have lL : leV (decide (a * b < 0), n, e) (wholeN (a * b)) := by rw [← hL']; exact encl_low (plP_whole hab _)
    have lH : leV (wholeN (a * b)) (decide (a * b < 0), n', e') := by rw [← hH']; exact encl_high (plP_whole hab _)
    have cL := (quo_core ha0 hb0 rfl n1 n2 m1 m2 (by omega) (by omega) (by omega) (by omega) hMG).1 lL
    have cH := (quo_core ha0 hb0 rfl n1' n2' m1 m2 (by omega) (by omega) (by omega) (by omega) hMG).2 lH
    have pL : ∀ way, plP (posV (quoN (decide (a * b < 0), n, e) (decide (b < 0), m, f)) way) = true := fun way => plP_quo n1 n2 m1 m2 (by omega) (by omega) (by omega) (by omega) way
    have pH : ∀ way, plP (posV (quoN (decide (a * b < 0), n', e') (decide (b < 0), m, f)) way) = true := fun way => plP_quo n1' n2' m1 m2 (by omega) (by omega) (by omega) (by omega) way
    rw [hL', hH']
    generalize quoN (decide (a * b < 0), n, e) (decide (b < 0), m, f) = x at *
    generalize quoN (decide (a * b < 0), n', e') (decide (b < 0), m, f) = y at *
    have hlo : min (posV x (-1)) (posV y (-1)) ≤ posV (wholeN a) (-1) := by
      rcases Int.lt_or_gt_of_ne hb0 with hb' | hb'
      · have := posV_mono (-1) (.inl rfl) (cH.2 hb'); omega
      · have := posV_mono (-1) (.inl rfl) (cL.1 hb'); omega
    have hhi : posV (wholeN a) 1 ≤ max (posV x 1) (posV y 1) := by
      rcases Int.lt_or_gt_of_ne hb0 with hb' | hb'
      · have := posV_mono 1 (.inr rfl) (cL.2 hb'); omega
      · have := posV_mono 1 (.inr rfl) (cH.1 hb'); omega
    have hxy : min (posV x (-1)) (posV y (-1)) ≤ max (posV x 1) (posV y 1) := by have := posV_le x; omega
    obtain ⟨u, hu, eu⟩ := pick_min x y
    obtain ⟨v, hv, ev⟩ := pick_max x y
    rw [eu] at hlo hxy ⊢
    rw [ev] at hhi hxy ⊢
    have pu : plP (posV u (-1)) = true := by rcases hu with rfl | rfl; exact pL _; exact pH _
    have pv : plP (posV v 1) = true := by rcases hv with rfl | rfl; exact pL _; exact pH _
    have iv := iv_wdP pu pv hxy
    refine ⟨wdP (posV u (-1)), wdP (posV v 1), by rw [boxP_plain pu pv]; rfl, iv, ?_, ?_⟩
    · rw [(lessT_left hma hmf _).1, lessT_pos iva iv.low]
      refine decide_eq_false ?_
      rw [(fr_wdP pu).pos, hpf]; omega
    · rw [(lessT_left hma hmf _).2, lessT_pos iv iva]
      refine decide_eq_false ?_
      rw [(fr_wdP pv).pos, hpf]
      have := hsa.2
      omega
end Go.Proofs.YtonhpkigoplmaaaGreatDoor
namespace Go.Proofs.YtonhpkigoplmaaaGreatDoor
open Go.RowKit Go.Extern Ieee
attribute [local go_sem] run_store_float

theorem ofInt_nat (n : Int) : (BitVec.ofInt 64 n).toNat = (n % 18446744073709551616).toNat := by
  rw [BitVec.toNat_ofInt]; rfl

theorem i64_low (n : Int) : bits .and .i64 n 2047 = n % 2048 := by
  show IntKind.i64.wrap ((BitVec.ofInt 64 n &&& BitVec.ofInt 64 2047).toNat : Int) = _
  rw [BitVec.toNat_and, ofInt_nat, ofInt_nat, IntKind.wrap_i64, show ((2047 : Int) % 18446744073709551616).toNat = 2047 by decide]
  have : (n % 18446744073709551616).toNat &&& 2047 = (n % 18446744073709551616).toNat % 2048 := Nat.and_two_pow_sub_one_eq_mod _ 11
  rw [this]
  omega

theorem i64_high2 (n : Int) (h1 : -9223372036854775808 ≤ n) (h2 : n < 9223372036854775808) : bits .andNot .i64 n 2047 = n - n % 2048 := by
  show IntKind.i64.wrap ((BitVec.ofInt 64 n &&& ~~~BitVec.ofInt 64 2047).toNat : Int) = _
  rw [BitVec.toNat_and, BitVec.toNat_not, ofInt_nat, ofInt_nat, IntKind.wrap_i64, show ((2047 : Int) % 18446744073709551616).toNat = 2047 by decide, show 2 ^ 64 - 1 - 2047 = 18446744073709549568 by decide, nat_hi64_11]
  omega

set_option maxHeartbeats 400000 in
theorem aroundWhole_any (n : Int) (w : World) (h1 : -9223372036854775808 ≤ n) (h2 : n < 9223372036854775808) :
    Calls Tryz.prog 128 #[.int .i64 n] w fun e w' => e = .returned (.agg #[.float .f64 (wholeLo n), .float .f64 (wholeHi n)]) ∧ Below w.heap.size w w' := by
  have HL : Hid (floatOfInt FloatKind.f64 (bits BinOp.and IntKind.i64 n 2047) = fd 0 (n % 2048)) := by show _ = _; rw [i64_low]; rfl
  have HH : Hid (floatOfInt FloatKind.f64 (bits BinOp.andNot IntKind.i64 n 2047) = fd 0 (n - n % 2048)) := by show _ = _; rw [i64_high2 n h1 h2]; rfl
  have HS : Hid (∀ w, Calls Tryz.prog 89 #[.float .f64 (fd 0 (n - n % 2048)), .float .f64 (fd 0 (n % 2048))] w fun e w' => e = .returned (.agg #[.float .f64 (wholeLo n), .float .f64 (wholeHi n)]) ∧ Below w.heap.size w w') := by
    intro w
    have p63 : (2 : Nat) ^ 63 = 9223372036854775808 := by decide
    exact sum_whole n _ _ w (by rw [p63]; omega) (by omega) (by rw [p63]; omega) (by omega) (by omega)
  clear h1 h2
  go_enter Tryz.func128, Tryz.ntmps128
  go_wp2_with fail
  rw [HL.out, HH.out]
  refine Calls.mono (HS.out _) ?_
  rintro e w1 ⟨rfl, hb1⟩
  have B0 := blk_below (blk_new w _) hb1
  obtain ⟨k0, k1, k2, k3⟩ := blk2 B0
  have hz : w.heap.size < w1.heap.size := (Array.getElem?_eq_some_iff.1 B0).1
  have HB1 : Hid (Below w.heap.size w w1) := ((Below.refl _ _).alloc (Nat.le_refl _) _).trans (hb1.mono (by simp))
  have HB0 : Hid (w1.heap[w.heap.size]? = _) := B0
  clear hb1 B0 HS HL HH
  go_wp2
  obtain ⟨c10, c11, -, -⟩ := blk2 (blk_old (blk_store2 (a := .float .f64 (wholeLo n)) (b := .float .f64 (wholeHi n)) HB0.out) (Obj.cells #[Value.float FloatKind.f64 (wholeLo n), Value.float FloatKind.f64 (wholeHi n)] 130))
  refine bodyPost_ret (v := .agg #[.float .f64 (wholeLo n), .float .f64 (wholeHi n)]) (by simp [results, Tryz.results128, go_sem, c10, c11]) rfl ?_
  exact ⟨rfl, ((HB1.out.setCell (by simp) _).setCell (by simp) _).alloc (by have := HB1.out.size; simpa using this) _⟩
end Go.Proofs.YtonhpkigoplmaaaGreatDoor
namespace Go.Proofs.YtonhpkigoplmaaaGreatDoor
open Go.RowKit Go.Extern Ieee
attribute [local go_sem] run_store_float

theorem halves_int (w : World) : Calls Tryz.prog 127 #[] w fun e w' => e = .returned (.bool false) ∧ w' = w := by
  go_enter Tryz.func127, Tryz.ntmps127
  go_wp2
  go_ret
  exact ⟨rfl, rfl⟩

theorem halves_int32 (w : World) : Calls Tryz.prog 129 #[] w fun e w' => e = .returned (.bool false) ∧ w' = w := by
  go_enter Tryz.func129, Tryz.ntmps129
  go_wp2
  go_ret
  exact ⟨rfl, rfl⟩

theorem halves_int64 (w : World) : Calls Tryz.prog 130 #[] w fun e w' => e = .returned (.bool false) ∧ w' = w := by
  go_enter Tryz.func130, Tryz.ntmps130
  go_wp2
  go_ret
  exact ⟨rfl, rfl⟩

theorem halves_small (w : World) : Calls Tryz.prog 132 #[] w fun e w' => e = .returned (.bool false) ∧ w' = w := by
  go_enter Tryz.func132, Tryz.ntmps132
  go_wp2
  go_ret
  exact ⟨rfl, rfl⟩

theorem one_f : floatOfInt FloatKind.f64 1 = 4607182418800017408 := by kernel_rfl
theorem half_f : floatBits .quo .f64 4607182418800017408 4611686018427387904 = some 4602678819172646912 := by kernel_rfl
theorem half_ne : (FloatKind.f64.format.order 4602678819172646912 0 != some Ordering.eq) = true := by kernel_rfl

theorem halves_float64 (w : World) : Calls Tryz.prog 131 #[] w fun e w' => e = .returned (.bool true) ∧ w' = w := by
  have g : ∀ w, (binOp .quo 65 (.float .f64 4607182418800017408) (.float .f64 4611686018427387904)).run Tryz.prog w = .ok (.float .f64 4602678819172646912) w := fun w => run_float_arith w .quo _ .f64 _ _ _ half_f
  have o := one_f
  have hn := half_ne
  go_enter Tryz.func131, Tryz.ntmps131
  go_wp2
  go_ret
  exact ⟨rfl, rfl⟩

theorem halves_real (w : World) : Calls Tryz.prog 133 #[] w fun e w' => e = .returned (.bool true) ∧ w' = w := by
  have g : ∀ w, (binOp .quo 117 (.float .f64 4607182418800017408) (.float .f64 4611686018427387904)).run Tryz.prog w = .ok (.float .f64 4602678819172646912) w := fun w => run_float_arith w .quo _ .f64 _ _ _ half_f
  have o := one_f
  have hn := half_ne
  go_enter Tryz.func133, Tryz.ntmps133
  go_wp2
  go_ret
  exact ⟨rfl, rfl⟩


theorem exact_int (x : Int) (w : World) (h1 : -9223372036854775808 ≤ x) (h2 : x < 9223372036854775808) :
    Calls Tryz.prog 72 #[.int .i64 x] w fun e w' => e = .returned (.tuple #[.agg #[.float .f64 (wholeLo x), .float .f64 (wholeHi x)], .nilIface]) ∧ Below w.heap.size w w' := by
  have HA : Hid (∀ w, Calls Tryz.prog 128 #[.int .i64 x] w fun e w' => e = .returned (.agg #[.float .f64 (wholeLo x), .float .f64 (wholeHi x)]) ∧ Below w.heap.size w w') := fun w => aroundWhole_any x w h1 h2
  have hw : wrap64 x = x := by unfold wrap64; omega
  clear h1 h2
  go_enter Tryz.func72, Tryz.ntmps72
  go_wp2_with fail
  refine (halves_int _).mono ?_
  rintro e w' ⟨rfl, rfl⟩
  go_wp2_with fail
  refine Calls.mono (HA.out _) ?_
  rintro e w1 ⟨rfl, hb1⟩
  have B0 := blk_below (blk_new w _) hb1
  obtain ⟨k0, k1, k2, k3⟩ := blk2 B0
  have HB1 : Hid (Below w.heap.size w w1) := ((Below.refl _ _).alloc (Nat.le_refl _) _).trans (hb1.mono (by simp))
  have HB0 : Hid (w1.heap[w.heap.size]? = _) := B0
  clear hb1 B0 HA
  go_wp2
  refine bodyPost_ret (v := .tuple #[.agg #[.float .f64 (wholeLo x), .float .f64 (wholeHi x)], .nilIface]) (by simp [results, Tryz.results72, go_sem, k0, k1]) rfl ?_
  exact ⟨rfl, (HB1.out.setCell (by simp) _).setCell (by simp) _⟩

theorem exact_int32 (x : Int) (w : World) (h1 : -9223372036854775808 ≤ x) (h2 : x < 9223372036854775808) :
    Calls Tryz.prog 73 #[.int .i32 x] w fun e w' => e = .returned (.tuple #[.agg #[.float .f64 (wholeLo x), .float .f64 (wholeHi x)], .nilIface]) ∧ Below w.heap.size w w' := by
  have HA : Hid (∀ w, Calls Tryz.prog 128 #[.int .i64 x] w fun e w' => e = .returned (.agg #[.float .f64 (wholeLo x), .float .f64 (wholeHi x)]) ∧ Below w.heap.size w w') := fun w => aroundWhole_any x w h1 h2
  have hw : wrap64 x = x := by unfold wrap64; omega
  clear h1 h2
  go_enter Tryz.func73, Tryz.ntmps73
  go_wp2_with fail
  refine (halves_int32 _).mono ?_
  rintro e w' ⟨rfl, rfl⟩
  go_wp2_with fail
  refine Calls.mono (HA.out _) ?_
  rintro e w1 ⟨rfl, hb1⟩
  have B0 := blk_below (blk_new w _) hb1
  obtain ⟨k0, k1, k2, k3⟩ := blk2 B0
  have HB1 : Hid (Below w.heap.size w w1) := ((Below.refl _ _).alloc (Nat.le_refl _) _).trans (hb1.mono (by simp))
  have HB0 : Hid (w1.heap[w.heap.size]? = _) := B0
  clear hb1 B0 HA
  go_wp2
  refine bodyPost_ret (v := .tuple #[.agg #[.float .f64 (wholeLo x), .float .f64 (wholeHi x)], .nilIface]) (by simp [results, Tryz.results73, go_sem, k0, k1]) rfl ?_
  exact ⟨rfl, (HB1.out.setCell (by simp) _).setCell (by simp) _⟩

theorem exact_int64 (x : Int) (w : World) (h1 : -9223372036854775808 ≤ x) (h2 : x < 9223372036854775808) :
    Calls Tryz.prog 74 #[.int .i64 x] w fun e w' => e = .returned (.tuple #[.agg #[.float .f64 (wholeLo x), .float .f64 (wholeHi x)], .nilIface]) ∧ Below w.heap.size w w' := by
  have HA : Hid (∀ w, Calls Tryz.prog 128 #[.int .i64 x] w fun e w' => e = .returned (.agg #[.float .f64 (wholeLo x), .float .f64 (wholeHi x)]) ∧ Below w.heap.size w w') := fun w => aroundWhole_any x w h1 h2
  have hw : wrap64 x = x := by unfold wrap64; omega
  clear h1 h2
  go_enter Tryz.func74, Tryz.ntmps74
  go_wp2_with fail
  refine (halves_int64 _).mono ?_
  rintro e w' ⟨rfl, rfl⟩
  go_wp2_with fail
  refine Calls.mono (HA.out _) ?_
  rintro e w1 ⟨rfl, hb1⟩
  have B0 := blk_below (blk_new w _) hb1
  obtain ⟨k0, k1, k2, k3⟩ := blk2 B0
  have HB1 : Hid (Below w.heap.size w w1) := ((Below.refl _ _).alloc (Nat.le_refl _) _).trans (hb1.mono (by simp))
  have HB0 : Hid (w1.heap[w.heap.size]? = _) := B0
  clear hb1 B0 HA
  go_wp2
  refine bodyPost_ret (v := .tuple #[.agg #[.float .f64 (wholeLo x), .float .f64 (wholeHi x)], .nilIface]) (by simp [results, Tryz.results74, go_sem, k0, k1]) rfl ?_
  exact ⟨rfl, (HB1.out.setCell (by simp) _).setCell (by simp) _⟩

theorem exact_small (x : Int) (w : World) (h1 : -9223372036854775808 ≤ x) (h2 : x < 9223372036854775808) :
    Calls Tryz.prog 76 #[.int .i32 x] w fun e w' => e = .returned (.tuple #[.agg #[.float .f64 (wholeLo x), .float .f64 (wholeHi x)], .nilIface]) ∧ Below w.heap.size w w' := by
  have HA : Hid (∀ w, Calls Tryz.prog 128 #[.int .i64 x] w fun e w' => e = .returned (.agg #[.float .f64 (wholeLo x), .float .f64 (wholeHi x)]) ∧ Below w.heap.size w w') := fun w => aroundWhole_any x w h1 h2
  have hw : wrap64 x = x := by unfold wrap64; omega
  clear h1 h2
  go_enter Tryz.func76, Tryz.ntmps76
  go_wp2_with fail
  refine (halves_small _).mono ?_
  rintro e w' ⟨rfl, rfl⟩
  go_wp2_with fail
  refine Calls.mono (HA.out _) ?_
  rintro e w1 ⟨rfl, hb1⟩
  have B0 := blk_below (blk_new w _) hb1
  obtain ⟨k0, k1, k2, k3⟩ := blk2 B0
  have HB1 : Hid (Below w.heap.size w w1) := ((Below.refl _ _).alloc (Nat.le_refl _) _).trans (hb1.mono (by simp))
  have HB0 : Hid (w1.heap[w.heap.size]? = _) := B0
  clear hb1 B0 HA
  go_wp2
  refine bodyPost_ret (v := .tuple #[.agg #[.float .f64 (wholeLo x), .float .f64 (wholeHi x)], .nilIface]) (by simp [results, Tryz.results76, go_sem, k0, k1]) rfl ?_
  exact ⟨rfl, (HB1.out.setCell (by simp) _).setCell (by simp) _⟩
end Go.Proofs.YtonhpkigoplmaaaGreatDoor
namespace Go.Proofs.YtonhpkigoplmaaaGreatDoor
open Go.RowKit Go.Extern Ieee
attribute [local go_sem] run_store_float

set_option maxHeartbeats 400000 in
theorem exact_float64 (A : Nat → Addr) (b : Nat) (w : World) (hb : b < 18446744073709551616) (hS : Sents A w) :
    Calls Tryz.prog 75 #[.float .f64 b] w fun e w' => MakeR A b b w e w' := by
  have HB : Hid (b < 18446744073709551616) := hb
  have HS : Hid (Sents A w) := hS
  clear hb hS
  go_enter Tryz.func75, Tryz.ntmps75
  go_wp2_with fail
  refine (halves_float64 _).mono ?_
  rintro e w' ⟨rfl, rfl⟩
  go_wp2_with fail
  refine (make_any A b b _ HB.out HB.out (HS.out.alloc _)).mono ?_
  rintro e w1 ⟨rfl, hb1⟩
  have B0 := blk_below (blk_new w _) hb1
  obtain ⟨k0, k1, k2, k3⟩ := blk2 B0
  have HB1 : Hid (Below w.heap.size w w1) := ((Below.refl _ _).alloc (Nat.le_refl _) _).trans (hb1.mono (by simp))
  clear hb1 B0 HS
  go_wp2
  refine bodyPost_ret (v := .tuple #[.agg #[.float .f64 (makeN b b).1, .float .f64 (makeN b b).2.1], errV A (makeN b b).2.2]) (by simp [results, Tryz.results75, go_sem, k0, k1]) rfl ?_
  exact ⟨rfl, (HB1.out.setCell (by simp) _).setCell (by simp) _⟩

set_option maxHeartbeats 400000 in
theorem exact_real (A : Nat → Addr) (b : Nat) (w : World) (hb : b < 18446744073709551616) (hS : Sents A w) :
    Calls Tryz.prog 77 #[.float .f64 b] w fun e w' => MakeR A b b w e w' := by
  have HB : Hid (b < 18446744073709551616) := hb
  have HS : Hid (Sents A w) := hS
  clear hb hS
  go_enter Tryz.func77, Tryz.ntmps77
  go_wp2_with fail
  refine (halves_real _).mono ?_
  rintro e w' ⟨rfl, rfl⟩
  go_wp2_with fail
  refine (make_any A b b _ HB.out HB.out (HS.out.alloc _)).mono ?_
  rintro e w1 ⟨rfl, hb1⟩
  have B0 := blk_below (blk_new w _) hb1
  obtain ⟨k0, k1, k2, k3⟩ := blk2 B0
  have HB1 : Hid (Below w.heap.size w w1) := ((Below.refl _ _).alloc (Nat.le_refl _) _).trans (hb1.mono (by simp))
  clear hb1 B0 HS
  go_wp2
  refine bodyPost_ret (v := .tuple #[.agg #[.float .f64 (makeN b b).1, .float .f64 (makeN b b).2.1], errV A (makeN b b).2.2]) (by simp [results, Tryz.results77, go_sem, k0, k1]) rfl ?_
  exact ⟨rfl, (HB1.out.setCell (by simp) _).setCell (by simp) _⟩
end Go.Proofs.YtonhpkigoplmaaaGreatDoor
namespace Go.Proofs.YtonhpkigoplmaaaGreatDoor
open Go.RowKit Go.Extern Ieee
attribute [local go_sem] run_store_float

set_option maxHeartbeats 400000 in
theorem plainExact_0 (x : Int) (w : World) (h1 : -9223372036854775808 ≤ x) (h2 : x < 9223372036854775808) :
    Calls Tryz.prog 32 #[.int .i64 0, .int .i64 x] w fun e w' => e = .returned (.tuple #[.agg #[.int .u64 (wholeLo x : Int), .int .u64 (wholeHi x : Int)], .int .i64 0]) ∧ Below w.heap.size w w' := by
  have HY : Hid (-9223372036854775808 ≤ x ∧ x < 9223372036854775808) := by show _ ∧ _; omega
  clear h1 h2
  go_enter Tryz.func32, Tryz.ntmps32
  go_wp2_with fail
  have B0 := blk_old (blk_new w (Obj.cells #[Value.int IntKind.u64 0, Value.int IntKind.u64 0] 33)) (Obj.cells #[Value.float FloatKind.f64 0, Value.float FloatKind.f64 0] 67)
  have B1 := blk_new (w.alloc (Obj.cells #[Value.int IntKind.u64 0, Value.int IntKind.u64 0] 33)) (Obj.cells #[Value.float FloatKind.f64 0, Value.float FloatKind.f64 0] 67)
  have hW : Below w.heap.size w ((w.alloc (Obj.cells #[Value.int IntKind.u64 0, Value.int IntKind.u64 0] 33)).alloc (Obj.cells #[Value.float FloatKind.f64 0, Value.float FloatKind.f64 0] 67)) := ((Below.refl _ _).alloc (Nat.le_refl _) _).alloc (by simp) _
  simp only [World.size_alloc] at B1
  generalize ((w.alloc (Obj.cells #[Value.int IntKind.u64 0, Value.int IntKind.u64 0] 33)).alloc (Obj.cells #[Value.float FloatKind.f64 0, Value.float FloatKind.f64 0] 67)) = W2 at *
  refine (exact_int x _ HY.out.1 HY.out.2).mono ?_
  rintro e w1 ⟨rfl, hb1⟩
  have B0 := blk_below B0 hb1
  have B1 := blk_below B1 hb1
  have hb2 := hW.trans (hb1.mono hW.size)
  have hz : w.heap.size + 1 < w1.heap.size := (Array.getElem?_eq_some_iff.1 B1).1
  obtain ⟨k0, k1, k2, k3⟩ := blk2 B1
  have HB0 : Hid (w1.heap[w.heap.size]? = _) := B0
  have HB1 : Hid (w1.heap[w.heap.size + 1]? = _) := B1
  have Hb2 : Hid (Below w.heap.size w w1) := hb2
  clear hb1 hb2 B0 B1 hW
  go_wp2_with fail
  have B2 := blk_store2 (a := .float .f64 (wholeLo x)) (b := .float .f64 (wholeHi x)) HB1.out
  have B3 : ((w1.setCell ⟨w.heap.size + 1, 0, none⟩ (.float .f64 (wholeLo x))).setCell ⟨w.heap.size + 1, 1, none⟩ (.float .f64 (wholeHi x))).heap[w.heap.size]? = _ := blk_set_ne (blk_set_ne HB0.out (by omega)) (by omega)
  have hb4 : Below w.heap.size w ((w1.setCell ⟨w.heap.size + 1, 0, none⟩ (.float .f64 (wholeLo x))).setCell ⟨w.heap.size + 1, 1, none⟩ (.float .f64 (wholeHi x))) := (Hb2.out.setCell (by simp) _).setCell (by simp) _
  clear k0 k1 k2 k3 HB0 HB1 Hb2 hz
  generalize ((w1.setCell ⟨w.heap.size + 1, 0, none⟩ (.float .f64 (wholeLo x))).setCell ⟨w.heap.size + 1, 1, none⟩ (.float .f64 (wholeHi x))) = W3 at *
  refine (code_nil _).mono ?_
  rintro e w4 ⟨rfl, rfl⟩
  have hb5 : Below w4.heap.size w4 w4 := Below.refl _ _
  have B2 := blk_below B2 hb5
  have B3 := blk_below B3 hb5
  have Hb6 : Hid (Below w.heap.size w w4) := hb4.trans (hb5.mono hb4.size)
  obtain ⟨k0, k1, -, -⟩ := blk2 B2
  have HB3 : Hid (w4.heap[w.heap.size]? = _) := B3
  clear B2 B3 hb4 hb5
  go_wp2_with fail
  refine (box_any (wholeLo x) (wholeHi x) _).mono ?_
  rintro e w5 ⟨rfl, hb7⟩
  obtain ⟨k10, k11, k12, k13⟩ := blk2 (blk_below HB3.out hb7)
  have Hb8 : Hid (Below w.heap.size w w5) := Hb6.out.trans (hb7.mono Hb6.out.size)
  clear hb7 HB3 Hb6 k0 k1
  go_wp2
  refine bodyPost_ret (v := .tuple #[.agg #[.int .u64 ((wholeLo x) : Int), .int .u64 ((wholeHi x) : Int)], .int .i64 0]) (by simp [results, Tryz.results32, go_sem, k10, k11]) rfl ?_
  exact ⟨rfl, (Hb8.out.setCell (by simp) _).setCell (by simp) _⟩

set_option maxHeartbeats 400000 in
theorem plainExact_2 (x : Int) (w : World) (h1 : -9223372036854775808 ≤ x) (h2 : x < 9223372036854775808) :
    Calls Tryz.prog 32 #[.int .i64 2, .int .i64 x] w fun e w' => e = .returned (.tuple #[.agg #[.int .u64 (wholeLo x : Int), .int .u64 (wholeHi x : Int)], .int .i64 0]) ∧ Below w.heap.size w w' := by
  have HY : Hid (-9223372036854775808 ≤ x ∧ x < 9223372036854775808) := by show _ ∧ _; omega
  clear h1 h2
  go_enter Tryz.func32, Tryz.ntmps32
  go_wp2_with fail
  have B0 := blk_old (blk_new w (Obj.cells #[Value.int IntKind.u64 0, Value.int IntKind.u64 0] 33)) (Obj.cells #[Value.float FloatKind.f64 0, Value.float FloatKind.f64 0] 67)
  have B1 := blk_new (w.alloc (Obj.cells #[Value.int IntKind.u64 0, Value.int IntKind.u64 0] 33)) (Obj.cells #[Value.float FloatKind.f64 0, Value.float FloatKind.f64 0] 67)
  have hW : Below w.heap.size w ((w.alloc (Obj.cells #[Value.int IntKind.u64 0, Value.int IntKind.u64 0] 33)).alloc (Obj.cells #[Value.float FloatKind.f64 0, Value.float FloatKind.f64 0] 67)) := ((Below.refl _ _).alloc (Nat.le_refl _) _).alloc (by simp) _
  simp only [World.size_alloc] at B1
  generalize ((w.alloc (Obj.cells #[Value.int IntKind.u64 0, Value.int IntKind.u64 0] 33)).alloc (Obj.cells #[Value.float FloatKind.f64 0, Value.float FloatKind.f64 0] 67)) = W2 at *
  refine (exact_int64 x _ HY.out.1 HY.out.2).mono ?_
  rintro e w1 ⟨rfl, hb1⟩
  have B0 := blk_below B0 hb1
  have B1 := blk_below B1 hb1
  have hb2 := hW.trans (hb1.mono hW.size)
  have hz : w.heap.size + 1 < w1.heap.size := (Array.getElem?_eq_some_iff.1 B1).1
  obtain ⟨k0, k1, k2, k3⟩ := blk2 B1
  have HB0 : Hid (w1.heap[w.heap.size]? = _) := B0
  have HB1 : Hid (w1.heap[w.heap.size + 1]? = _) := B1
  have Hb2 : Hid (Below w.heap.size w w1) := hb2
  clear hb1 hb2 B0 B1 hW
  go_wp2_with fail
  have B2 := blk_store2 (a := .float .f64 (wholeLo x)) (b := .float .f64 (wholeHi x)) HB1.out
  have B3 : ((w1.setCell ⟨w.heap.size + 1, 0, none⟩ (.float .f64 (wholeLo x))).setCell ⟨w.heap.size + 1, 1, none⟩ (.float .f64 (wholeHi x))).heap[w.heap.size]? = _ := blk_set_ne (blk_set_ne HB0.out (by omega)) (by omega)
  have hb4 : Below w.heap.size w ((w1.setCell ⟨w.heap.size + 1, 0, none⟩ (.float .f64 (wholeLo x))).setCell ⟨w.heap.size + 1, 1, none⟩ (.float .f64 (wholeHi x))) := (Hb2.out.setCell (by simp) _).setCell (by simp) _
  clear k0 k1 k2 k3 HB0 HB1 Hb2 hz
  generalize ((w1.setCell ⟨w.heap.size + 1, 0, none⟩ (.float .f64 (wholeLo x))).setCell ⟨w.heap.size + 1, 1, none⟩ (.float .f64 (wholeHi x))) = W3 at *
  refine (code_nil _).mono ?_
  rintro e w4 ⟨rfl, rfl⟩
  have hb5 : Below w4.heap.size w4 w4 := Below.refl _ _
  have B2 := blk_below B2 hb5
  have B3 := blk_below B3 hb5
  have Hb6 : Hid (Below w.heap.size w w4) := hb4.trans (hb5.mono hb4.size)
  obtain ⟨k0, k1, -, -⟩ := blk2 B2
  have HB3 : Hid (w4.heap[w.heap.size]? = _) := B3
  clear B2 B3 hb4 hb5
  go_wp2_with fail
  refine (box_any (wholeLo x) (wholeHi x) _).mono ?_
  rintro e w5 ⟨rfl, hb7⟩
  obtain ⟨k10, k11, k12, k13⟩ := blk2 (blk_below HB3.out hb7)
  have Hb8 : Hid (Below w.heap.size w w5) := Hb6.out.trans (hb7.mono Hb6.out.size)
  clear hb7 HB3 Hb6 k0 k1
  go_wp2
  refine bodyPost_ret (v := .tuple #[.agg #[.int .u64 ((wholeLo x) : Int), .int .u64 ((wholeHi x) : Int)], .int .i64 0]) (by simp [results, Tryz.results32, go_sem, k10, k11]) rfl ?_
  exact ⟨rfl, (Hb8.out.setCell (by simp) _).setCell (by simp) _⟩

set_option maxHeartbeats 400000 in
theorem plainExact_1 (x : Int) (w : World) :
    Calls Tryz.prog 32 #[.int .i64 1, .int .i64 x] w fun e w' => e = .returned (.tuple #[.agg #[.int .u64 (wholeLo (wrap32 x) : Int), .int .u64 (wholeHi (wrap32 x) : Int)], .int .i64 0]) ∧ Below w.heap.size w w' := by
  have HY : Hid (-9223372036854775808 ≤ (wrap32 x) ∧ (wrap32 x) < 9223372036854775808) := by show _ ∧ _; unfold wrap32; omega
  go_enter Tryz.func32, Tryz.ntmps32
  go_wp2_with fail
  have B0 := blk_old (blk_new w (Obj.cells #[Value.int IntKind.u64 0, Value.int IntKind.u64 0] 33)) (Obj.cells #[Value.float FloatKind.f64 0, Value.float FloatKind.f64 0] 67)
  have B1 := blk_new (w.alloc (Obj.cells #[Value.int IntKind.u64 0, Value.int IntKind.u64 0] 33)) (Obj.cells #[Value.float FloatKind.f64 0, Value.float FloatKind.f64 0] 67)
  have hW : Below w.heap.size w ((w.alloc (Obj.cells #[Value.int IntKind.u64 0, Value.int IntKind.u64 0] 33)).alloc (Obj.cells #[Value.float FloatKind.f64 0, Value.float FloatKind.f64 0] 67)) := ((Below.refl _ _).alloc (Nat.le_refl _) _).alloc (by simp) _
  simp only [World.size_alloc] at B1
  generalize ((w.alloc (Obj.cells #[Value.int IntKind.u64 0, Value.int IntKind.u64 0] 33)).alloc (Obj.cells #[Value.float FloatKind.f64 0, Value.float FloatKind.f64 0] 67)) = W2 at *
  refine (exact_int32 (wrap32 x) _ HY.out.1 HY.out.2).mono ?_
  rintro e w1 ⟨rfl, hb1⟩
  have B0 := blk_below B0 hb1
  have B1 := blk_below B1 hb1
  have hb2 := hW.trans (hb1.mono hW.size)
  have hz : w.heap.size + 1 < w1.heap.size := (Array.getElem?_eq_some_iff.1 B1).1
  obtain ⟨k0, k1, k2, k3⟩ := blk2 B1
  have HB0 : Hid (w1.heap[w.heap.size]? = _) := B0
  have HB1 : Hid (w1.heap[w.heap.size + 1]? = _) := B1
  have Hb2 : Hid (Below w.heap.size w w1) := hb2
  clear hb1 hb2 B0 B1 hW
  go_wp2_with fail
  have B2 := blk_store2 (a := .float .f64 (wholeLo (wrap32 x))) (b := .float .f64 (wholeHi (wrap32 x))) HB1.out
  have B3 : ((w1.setCell ⟨w.heap.size + 1, 0, none⟩ (.float .f64 (wholeLo (wrap32 x)))).setCell ⟨w.heap.size + 1, 1, none⟩ (.float .f64 (wholeHi (wrap32 x)))).heap[w.heap.size]? = _ := blk_set_ne (blk_set_ne HB0.out (by omega)) (by omega)
  have hb4 : Below w.heap.size w ((w1.setCell ⟨w.heap.size + 1, 0, none⟩ (.float .f64 (wholeLo (wrap32 x)))).setCell ⟨w.heap.size + 1, 1, none⟩ (.float .f64 (wholeHi (wrap32 x)))) := (Hb2.out.setCell (by simp) _).setCell (by simp) _
  clear k0 k1 k2 k3 HB0 HB1 Hb2 hz
  generalize ((w1.setCell ⟨w.heap.size + 1, 0, none⟩ (.float .f64 (wholeLo (wrap32 x)))).setCell ⟨w.heap.size + 1, 1, none⟩ (.float .f64 (wholeHi (wrap32 x)))) = W3 at *
  refine (code_nil _).mono ?_
  rintro e w4 ⟨rfl, rfl⟩
  have hb5 : Below w4.heap.size w4 w4 := Below.refl _ _
  have B2 := blk_below B2 hb5
  have B3 := blk_below B3 hb5
  have Hb6 : Hid (Below w.heap.size w w4) := hb4.trans (hb5.mono hb4.size)
  obtain ⟨k0, k1, -, -⟩ := blk2 B2
  have HB3 : Hid (w4.heap[w.heap.size]? = _) := B3
  clear B2 B3 hb4 hb5
  go_wp2_with fail
  refine (box_any (wholeLo (wrap32 x)) (wholeHi (wrap32 x)) _).mono ?_
  rintro e w5 ⟨rfl, hb7⟩
  obtain ⟨k10, k11, k12, k13⟩ := blk2 (blk_below HB3.out hb7)
  have Hb8 : Hid (Below w.heap.size w w5) := Hb6.out.trans (hb7.mono Hb6.out.size)
  clear hb7 HB3 Hb6 k0 k1
  go_wp2
  refine bodyPost_ret (v := .tuple #[.agg #[.int .u64 ((wholeLo (wrap32 x)) : Int), .int .u64 ((wholeHi (wrap32 x)) : Int)], .int .i64 0]) (by simp [results, Tryz.results32, go_sem, k10, k11]) rfl ?_
  exact ⟨rfl, (Hb8.out.setCell (by simp) _).setCell (by simp) _⟩

set_option maxHeartbeats 400000 in
theorem plainExact_4 (x : Int) (w : World) :
    Calls Tryz.prog 32 #[.int .i64 4, .int .i64 x] w fun e w' => e = .returned (.tuple #[.agg #[.int .u64 (wholeLo (wrap32 x) : Int), .int .u64 (wholeHi (wrap32 x) : Int)], .int .i64 0]) ∧ Below w.heap.size w w' := by
  have HY : Hid (-9223372036854775808 ≤ (wrap32 x) ∧ (wrap32 x) < 9223372036854775808) := by show _ ∧ _; unfold wrap32; omega
  go_enter Tryz.func32, Tryz.ntmps32
  go_wp2_with fail
  have B0 := blk_old (blk_new w (Obj.cells #[Value.int IntKind.u64 0, Value.int IntKind.u64 0] 33)) (Obj.cells #[Value.float FloatKind.f64 0, Value.float FloatKind.f64 0] 67)
  have B1 := blk_new (w.alloc (Obj.cells #[Value.int IntKind.u64 0, Value.int IntKind.u64 0] 33)) (Obj.cells #[Value.float FloatKind.f64 0, Value.float FloatKind.f64 0] 67)
  have hW : Below w.heap.size w ((w.alloc (Obj.cells #[Value.int IntKind.u64 0, Value.int IntKind.u64 0] 33)).alloc (Obj.cells #[Value.float FloatKind.f64 0, Value.float FloatKind.f64 0] 67)) := ((Below.refl _ _).alloc (Nat.le_refl _) _).alloc (by simp) _
  simp only [World.size_alloc] at B1
  generalize ((w.alloc (Obj.cells #[Value.int IntKind.u64 0, Value.int IntKind.u64 0] 33)).alloc (Obj.cells #[Value.float FloatKind.f64 0, Value.float FloatKind.f64 0] 67)) = W2 at *
  refine (exact_small (wrap32 x) _ HY.out.1 HY.out.2).mono ?_
  rintro e w1 ⟨rfl, hb1⟩
  have B0 := blk_below B0 hb1
  have B1 := blk_below B1 hb1
  have hb2 := hW.trans (hb1.mono hW.size)
  have hz : w.heap.size + 1 < w1.heap.size := (Array.getElem?_eq_some_iff.1 B1).1
  obtain ⟨k0, k1, k2, k3⟩ := blk2 B1
  have HB0 : Hid (w1.heap[w.heap.size]? = _) := B0
  have HB1 : Hid (w1.heap[w.heap.size + 1]? = _) := B1
  have Hb2 : Hid (Below w.heap.size w w1) := hb2
  clear hb1 hb2 B0 B1 hW
  go_wp2_with fail
  have B2 := blk_store2 (a := .float .f64 (wholeLo (wrap32 x))) (b := .float .f64 (wholeHi (wrap32 x))) HB1.out
  have B3 : ((w1.setCell ⟨w.heap.size + 1, 0, none⟩ (.float .f64 (wholeLo (wrap32 x)))).setCell ⟨w.heap.size + 1, 1, none⟩ (.float .f64 (wholeHi (wrap32 x)))).heap[w.heap.size]? = _ := blk_set_ne (blk_set_ne HB0.out (by omega)) (by omega)
  have hb4 : Below w.heap.size w ((w1.setCell ⟨w.heap.size + 1, 0, none⟩ (.float .f64 (wholeLo (wrap32 x)))).setCell ⟨w.heap.size + 1, 1, none⟩ (.float .f64 (wholeHi (wrap32 x)))) := (Hb2.out.setCell (by simp) _).setCell (by simp) _
  clear k0 k1 k2 k3 HB0 HB1 Hb2 hz
  generalize ((w1.setCell ⟨w.heap.size + 1, 0, none⟩ (.float .f64 (wholeLo (wrap32 x)))).setCell ⟨w.heap.size + 1, 1, none⟩ (.float .f64 (wholeHi (wrap32 x)))) = W3 at *
  refine (code_nil _).mono ?_
  rintro e w4 ⟨rfl, rfl⟩
  have hb5 : Below w4.heap.size w4 w4 := Below.refl _ _
  have B2 := blk_below B2 hb5
  have B3 := blk_below B3 hb5
  have Hb6 : Hid (Below w.heap.size w w4) := hb4.trans (hb5.mono hb4.size)
  obtain ⟨k0, k1, -, -⟩ := blk2 B2
  have HB3 : Hid (w4.heap[w.heap.size]? = _) := B3
  clear B2 B3 hb4 hb5
  go_wp2_with fail
  refine (box_any (wholeLo (wrap32 x)) (wholeHi (wrap32 x)) _).mono ?_
  rintro e w5 ⟨rfl, hb7⟩
  obtain ⟨k10, k11, k12, k13⟩ := blk2 (blk_below HB3.out hb7)
  have Hb8 : Hid (Below w.heap.size w w5) := Hb6.out.trans (hb7.mono Hb6.out.size)
  clear hb7 HB3 Hb6 k0 k1
  go_wp2
  refine bodyPost_ret (v := .tuple #[.agg #[.int .u64 ((wholeLo (wrap32 x)) : Int), .int .u64 ((wholeHi (wrap32 x)) : Int)], .int .i64 0]) (by simp [results, Tryz.results32, go_sem, k10, k11]) rfl ?_
  exact ⟨rfl, (Hb8.out.setCell (by simp) _).setCell (by simp) _⟩

theorem makeN_code (lo hi : Nat) : (makeN lo hi).2.2 ≤ 2 := by
  unfold makeN
  split
  · decide
  · split <;> simp

set_option maxHeartbeats 400000 in
theorem plainExact_3 (A : Nat → Addr) (x : Int) (b : Nat) (w : World) (hx : IntKind.u64.wrap x = (b : Int)) (hb : b < 18446744073709551616) (hS : Sents A w) :
    Calls Tryz.prog 32 #[.int .i64 3, .int .i64 x] w fun e w' => e = .returned (.tuple #[.agg #[.int .u64 ((makeN b b).1 : Int), .int .u64 ((makeN b b).2.1 : Int)], .int .i64 ((makeN b b).2.2 : Int)]) ∧ Below w.heap.size w w' := by
  have HX : Hid (IntKind.u64.wrap x = (b : Int)) := hx
  have HB : Hid (b < 18446744073709551616) := hb
  have HS : Hid (Sents A w) := hS
  clear hx hb hS
  go_enter Tryz.func32, Tryz.ntmps32
  go_wp2_with fail
  rw [HX.out]
  refine (float_any b _).mono ?_
  rintro e w' ⟨rfl, rfl⟩
  go_wp2_with fail
  have B0 := blk_old (blk_new w (Obj.cells #[Value.int IntKind.u64 0, Value.int IntKind.u64 0] 33)) (Obj.cells #[Value.float FloatKind.f64 0, Value.float FloatKind.f64 0] 67)
  have B1 := blk_new (w.alloc (Obj.cells #[Value.int IntKind.u64 0, Value.int IntKind.u64 0] 33)) (Obj.cells #[Value.float FloatKind.f64 0, Value.float FloatKind.f64 0] 67)
  have hW : Below w.heap.size w ((w.alloc (Obj.cells #[Value.int IntKind.u64 0, Value.int IntKind.u64 0] 33)).alloc (Obj.cells #[Value.float FloatKind.f64 0, Value.float FloatKind.f64 0] 67)) := ((Below.refl _ _).alloc (Nat.le_refl _) _).alloc (by simp) _
  simp only [World.size_alloc] at B1
  generalize ((w.alloc (Obj.cells #[Value.int IntKind.u64 0, Value.int IntKind.u64 0] 33)).alloc (Obj.cells #[Value.float FloatKind.f64 0, Value.float FloatKind.f64 0] 67)) = W2 at *
  refine (exact_float64 A b _ HB.out (HS.out.below hW (Nat.le_refl _))).mono ?_
  rintro e w1 ⟨rfl, hb1⟩
  have B0 := blk_below B0 hb1
  have B1 := blk_below B1 hb1
  have hb2 := hW.trans (hb1.mono hW.size)
  have hz : w.heap.size + 1 < w1.heap.size := (Array.getElem?_eq_some_iff.1 B1).1
  obtain ⟨k0, k1, k2, k3⟩ := blk2 B1
  have HB0 : Hid (w1.heap[w.heap.size]? = _) := B0
  have HB1 : Hid (w1.heap[w.heap.size + 1]? = _) := B1
  have Hb2 : Hid (Below w.heap.size w w1) := hb2
  clear hb1 hb2 B0 B1 hW
  go_wp2_with fail
  have B2 := blk_store2 (a := .float .f64 (makeN b b).1) (b := .float .f64 (makeN b b).2.1) HB1.out
  have B3 : ((w1.setCell ⟨w.heap.size + 1, 0, none⟩ (.float .f64 (makeN b b).1)).setCell ⟨w.heap.size + 1, 1, none⟩ (.float .f64 (makeN b b).2.1)).heap[w.heap.size]? = _ := blk_set_ne (blk_set_ne HB0.out (by omega)) (by omega)
  have hb4 : Below w.heap.size w ((w1.setCell ⟨w.heap.size + 1, 0, none⟩ (.float .f64 (makeN b b).1)).setCell ⟨w.heap.size + 1, 1, none⟩ (.float .f64 (makeN b b).2.1)) := (Hb2.out.setCell (by simp) _).setCell (by simp) _
  clear k0 k1 k2 k3 HB0 HB1 Hb2 hz
  generalize ((w1.setCell ⟨w.heap.size + 1, 0, none⟩ (.float .f64 (makeN b b).1)).setCell ⟨w.heap.size + 1, 1, none⟩ (.float .f64 (makeN b b).2.1)) = W3 at *
  have hS5 := HS.out.below hb4 (Nat.le_refl _)
  refine (code_errV A (makeN b b).2.2 _ (by have := makeN_code b b; omega) hS5).mono ?_
  rintro e w4 ⟨rfl, hb5⟩
  have B2 := blk_below B2 hb5
  have B3 := blk_below B3 hb5
  have Hb6 : Hid (Below w.heap.size w w4) := hb4.trans (hb5.mono hb4.size)
  obtain ⟨k0, k1, -, -⟩ := blk2 B2
  have HB3 : Hid (w4.heap[w.heap.size]? = _) := B3
  clear B2 B3 hb4 hb5
  go_wp2_with fail
  refine (box_any (makeN b b).1 (makeN b b).2.1 _).mono ?_
  rintro e w5 ⟨rfl, hb7⟩
  obtain ⟨k10, k11, k12, k13⟩ := blk2 (blk_below HB3.out hb7)
  have Hb8 : Hid (Below w.heap.size w w5) := Hb6.out.trans (hb7.mono Hb6.out.size)
  clear hb7 HB3 Hb6 k0 k1
  go_wp2
  refine bodyPost_ret (v := .tuple #[.agg #[.int .u64 ((makeN b b).1 : Int), .int .u64 ((makeN b b).2.1 : Int)], .int .i64 ((makeN b b).2.2 : Int)]) (by simp [results, Tryz.results32, go_sem, k10, k11]) rfl ?_
  exact ⟨rfl, (Hb8.out.setCell (by simp) _).setCell (by simp) _⟩

set_option maxHeartbeats 400000 in
theorem plainExact_5 (A : Nat → Addr) (x : Int) (b : Nat) (w : World) (hx : IntKind.u64.wrap x = (b : Int)) (hb : b < 18446744073709551616) (hS : Sents A w) :
    Calls Tryz.prog 32 #[.int .i64 5, .int .i64 x] w fun e w' => e = .returned (.tuple #[.agg #[.int .u64 ((makeN b b).1 : Int), .int .u64 ((makeN b b).2.1 : Int)], .int .i64 ((makeN b b).2.2 : Int)]) ∧ Below w.heap.size w w' := by
  have HX : Hid (IntKind.u64.wrap x = (b : Int)) := hx
  have HB : Hid (b < 18446744073709551616) := hb
  have HS : Hid (Sents A w) := hS
  clear hx hb hS
  go_enter Tryz.func32, Tryz.ntmps32
  go_wp2_with fail
  rw [HX.out]
  refine (float_any b _).mono ?_
  rintro e w' ⟨rfl, rfl⟩
  go_wp2_with fail
  have B0 := blk_old (blk_new w (Obj.cells #[Value.int IntKind.u64 0, Value.int IntKind.u64 0] 33)) (Obj.cells #[Value.float FloatKind.f64 0, Value.float FloatKind.f64 0] 67)
  have B1 := blk_new (w.alloc (Obj.cells #[Value.int IntKind.u64 0, Value.int IntKind.u64 0] 33)) (Obj.cells #[Value.float FloatKind.f64 0, Value.float FloatKind.f64 0] 67)
  have hW : Below w.heap.size w ((w.alloc (Obj.cells #[Value.int IntKind.u64 0, Value.int IntKind.u64 0] 33)).alloc (Obj.cells #[Value.float FloatKind.f64 0, Value.float FloatKind.f64 0] 67)) := ((Below.refl _ _).alloc (Nat.le_refl _) _).alloc (by simp) _
  simp only [World.size_alloc] at B1
  generalize ((w.alloc (Obj.cells #[Value.int IntKind.u64 0, Value.int IntKind.u64 0] 33)).alloc (Obj.cells #[Value.float FloatKind.f64 0, Value.float FloatKind.f64 0] 67)) = W2 at *
  refine (exact_real A b _ HB.out (HS.out.below hW (Nat.le_refl _))).mono ?_
  rintro e w1 ⟨rfl, hb1⟩
  have B0 := blk_below B0 hb1
  have B1 := blk_below B1 hb1
  have hb2 := hW.trans (hb1.mono hW.size)
  have hz : w.heap.size + 1 < w1.heap.size := (Array.getElem?_eq_some_iff.1 B1).1
  obtain ⟨k0, k1, k2, k3⟩ := blk2 B1
  have HB0 : Hid (w1.heap[w.heap.size]? = _) := B0
  have HB1 : Hid (w1.heap[w.heap.size + 1]? = _) := B1
  have Hb2 : Hid (Below w.heap.size w w1) := hb2
  clear hb1 hb2 B0 B1 hW
  go_wp2_with fail
  have B2 := blk_store2 (a := .float .f64 (makeN b b).1) (b := .float .f64 (makeN b b).2.1) HB1.out
  have B3 : ((w1.setCell ⟨w.heap.size + 1, 0, none⟩ (.float .f64 (makeN b b).1)).setCell ⟨w.heap.size + 1, 1, none⟩ (.float .f64 (makeN b b).2.1)).heap[w.heap.size]? = _ := blk_set_ne (blk_set_ne HB0.out (by omega)) (by omega)
  have hb4 : Below w.heap.size w ((w1.setCell ⟨w.heap.size + 1, 0, none⟩ (.float .f64 (makeN b b).1)).setCell ⟨w.heap.size + 1, 1, none⟩ (.float .f64 (makeN b b).2.1)) := (Hb2.out.setCell (by simp) _).setCell (by simp) _
  clear k0 k1 k2 k3 HB0 HB1 Hb2 hz
  generalize ((w1.setCell ⟨w.heap.size + 1, 0, none⟩ (.float .f64 (makeN b b).1)).setCell ⟨w.heap.size + 1, 1, none⟩ (.float .f64 (makeN b b).2.1)) = W3 at *
  have hS5 := HS.out.below hb4 (Nat.le_refl _)
  refine (code_errV A (makeN b b).2.2 _ (by have := makeN_code b b; omega) hS5).mono ?_
  rintro e w4 ⟨rfl, hb5⟩
  have B2 := blk_below B2 hb5
  have B3 := blk_below B3 hb5
  have Hb6 : Hid (Below w.heap.size w w4) := hb4.trans (hb5.mono hb4.size)
  obtain ⟨k0, k1, -, -⟩ := blk2 B2
  have HB3 : Hid (w4.heap[w.heap.size]? = _) := B3
  clear B2 B3 hb4 hb5
  go_wp2_with fail
  refine (box_any (makeN b b).1 (makeN b b).2.1 _).mono ?_
  rintro e w5 ⟨rfl, hb7⟩
  obtain ⟨k10, k11, k12, k13⟩ := blk2 (blk_below HB3.out hb7)
  have Hb8 : Hid (Below w.heap.size w w5) := Hb6.out.trans (hb7.mono Hb6.out.size)
  clear hb7 HB3 Hb6 k0 k1
  go_wp2
  refine bodyPost_ret (v := .tuple #[.agg #[.int .u64 ((makeN b b).1 : Int), .int .u64 ((makeN b b).2.1 : Int)], .int .i64 ((makeN b b).2.2 : Int)]) (by simp [results, Tryz.results32, go_sem, k10, k11]) rfl ?_
  exact ⟨rfl, (Hb8.out.setCell (by simp) _).setCell (by simp) _⟩

set_option maxHeartbeats 400000 in
theorem plainExact_none (k x : Int) (w : World) (hk : k ≠ 0 ∧ k ≠ 1 ∧ k ≠ 2 ∧ k ≠ 3 ∧ k ≠ 4 ∧ k ≠ 5) :
    Calls Tryz.prog 32 #[.int .i64 k, .int .i64 x] w fun e w' => e = .returned (.tuple #[.agg #[.int .u64 0, .int .u64 0], .int .i64 0]) ∧ Below w.heap.size w w' := by
  obtain ⟨h0, h1, h2, h3, h4, h5⟩ := hk
  have t0 : (k == 0) = false := by rw [beq_eq_false_iff_ne]; exact h0
  have t1 : (k == 1) = false := by rw [beq_eq_false_iff_ne]; exact h1
  have t2 : (k == 2) = false := by rw [beq_eq_false_iff_ne]; exact h2
  have t3 : (k == 3) = false := by rw [beq_eq_false_iff_ne]; exact h3
  have t4 : (k == 4) = false := by rw [beq_eq_false_iff_ne]; exact h4
  have t5 : (k == 5) = false := by rw [beq_eq_false_iff_ne]; exact h5
  clear h0 h1 h2 h3 h4 h5
  go_enter Tryz.func32, Tryz.ntmps32
  go_wp2_with fail
  have B0 := blk_old (blk_new w (Obj.cells #[Value.int IntKind.u64 0, Value.int IntKind.u64 0] 33)) (Obj.cells #[Value.float FloatKind.f64 0, Value.float FloatKind.f64 0] 67)
  have B1 := blk_new (w.alloc (Obj.cells #[Value.int IntKind.u64 0, Value.int IntKind.u64 0] 33)) (Obj.cells #[Value.float FloatKind.f64 0, Value.float FloatKind.f64 0] 67)
  have hW : Below w.heap.size w ((w.alloc (Obj.cells #[Value.int IntKind.u64 0, Value.int IntKind.u64 0] 33)).alloc (Obj.cells #[Value.float FloatKind.f64 0, Value.float FloatKind.f64 0] 67)) := ((Below.refl _ _).alloc (Nat.le_refl _) _).alloc (by simp) _
  simp only [World.size_alloc] at B1
  generalize ((w.alloc (Obj.cells #[Value.int IntKind.u64 0, Value.int IntKind.u64 0] 33)).alloc (Obj.cells #[Value.float FloatKind.f64 0, Value.float FloatKind.f64 0] 67)) = W2 at *
  refine (code_nil _).mono ?_
  rintro e w4 ⟨rfl, rfl⟩
  obtain ⟨k0, k1, k2, k3⟩ := blk2 B1
  have HB3 : Hid (w4.heap[w.heap.size]? = _) := B0
  have Hb6 : Hid (Below w.heap.size w w4) := hW
  clear B0 B1 hW
  go_wp2_with fail
  refine (box_any 0 0 _).mono ?_
  rintro e w5 ⟨rfl, hb7⟩
  obtain ⟨k10, k11, k12, k13⟩ := blk2 (blk_below HB3.out hb7)
  have Hb8 : Hid (Below w.heap.size w w5) := Hb6.out.trans (hb7.mono Hb6.out.size)
  clear hb7 HB3 Hb6 k0 k1 k2 k3
  go_wp2
  refine bodyPost_ret (v := .tuple #[.agg #[.int .u64 0, .int .u64 0], .int .i64 0]) (by simp [results, Tryz.results32, go_sem, k10, k11]) rfl ?_
  exact ⟨rfl, (Hb8.out.setCell (by simp) _).setCell (by simp) _⟩
end Go.Proofs.YtonhpkigoplmaaaGreatDoor
namespace Go.Proofs.YtonhpkigoplmaaaGreatDoor
open Go.RowKit Go.Extern Ieee

theorem whole_eq (y : Int) (h1 : -9223372036854775808 ≤ y) (h2 : y < 9223372036854775808) : aroundN (wholeN y) (wholeN y) = (wholeLo y, wholeHi y, 0) := by
  unfold aroundN wholeN wholeLo wholeHi
  simp only
  by_cases h0 : y = 0
  · subst h0; rfl
  · have hn : y.natAbs ≠ 0 := by omega
    have hb := bl_le (n := y.natAbs) (k := 64) (by have : (2 : Nat) ^ 64 = 18446744073709551616 := by decide
                                                   omega)
    have hbp := bl_pos (Nat.pos_of_ne_zero hn)
    have hm := mf_bounds (Nat.pos_of_ne_zero hn)
    rw [roundN_rung _ _ _ hn, roundN_rung _ _ _ hn, if_neg h0, if_neg h0]
    have key : ∀ c : Bool, rngW (decide (y < 0)) (rung y.natAbs 0 + if c = true then 1 else 0) = (wd (decide (y < 0)) (rung y.natAbs 0 + if c = true then 1 else 0).toNat, true) := by
      intro c
      unfold rngW
      have : 553942754166571008 ≤ (rung y.natAbs 0 + if c = true then 1 else 0) ∧ (rung y.natAbs 0 + if c = true then 1 else 0) ≤ 8660422083433463808 := by
        unfold rung
        split <;> omega
      rw [if_pos this]
      rfl
    rw [key, key]
    rfl

theorem round_plain {b : Nat} {s : Bool} {n : Nat} {e way : Int} (hb : b < 18446744073709551616) (h : plainN b = some (s, n, e)) : roundN s n e way = (posW b, true) := by
  unfold plainN at h
  split at h
  · rename_i h0
    simp only [Option.some.injEq, Prod.mk.injEq] at h
    obtain ⟨rfl, rfl, rfl⟩ := h
    have : posW b = 0 := by unfold posW; rw [if_pos (by omega)]
    rw [this]; rfl
  · rename_i h0
    split at h
    · cases h
    · rename_i h1
      simp only [Option.some.injEq, Prod.mk.injEq] at h
      obtain ⟨rfl, rfl, rfl⟩ := h
      have hp : posW b = b := by unfold posW; rw [if_neg (by omega)]
      have hb53 := bl53 (q := b % 4503599627370496 + 4503599627370496) (by omega) (by omega)
      unfold roundN mant
      rw [if_neg (by omega), hb53, if_pos (Nat.le_refl _), hp, Nat.sub_self, Nat.pow_zero, Nat.mul_one]
      simp only
      unfold packN
      rw [if_neg (by omega)]
      congr 1
      by_cases hs : b / 9223372036854775808 = 1
      · rw [decide_eq_true hs, if_pos rfl]; omega
      · rw [decide_eq_false hs, if_neg Bool.false_ne_true]; omega

theorem lessW_self (b : Nat) : lessW b b = false := by
  unfold lessW
  rw [lessN_eq, decide_eq_false_iff_not]
  exact Int.lt_irrefl _

theorem float_eq (b : Nat) (hb : b < 18446744073709551616) : (if (plainN b).isSome = true then aroundN ((plainN b).getD (false, 0, 0)) ((plainN b).getD (false, 0, 0)) else (0, 0, 1)) = makeN b b := by
  unfold makeN
  rw [lessW_self]
  cases h : plainN b
  · rfl
  · rename_i t
    obtain ⟨s, n, e⟩ := t
    simp only [Option.isSome_some, if_true, Option.getD_some]
    unfold aroundN
    simp only
    rw [round_plain hb h, round_plain hb h]
    rfl

/-- What the program gives is what the document gives. -/
theorem plainExact_any (A : Nat → Addr) (k x : Int) (w : World) (h1 : -9223372036854775808 ≤ x) (h2 : x < 9223372036854775808) (hS : Sents A w) :
    Calls Tryz.prog 32 #[.int .i64 k, .int .i64 x] w fun e w' => e = .returned (.tuple #[.agg #[.int .u64 ((refExactN k x).1 : Int), .int .u64 ((refExactN k x).2.1 : Int)], .int .i64 ((refExactN k x).2.2 : Int)]) ∧ Below w.heap.size w w' := by
  have hw : -9223372036854775808 ≤ wrap32 x ∧ wrap32 x < 9223372036854775808 := by unfold wrap32; omega
  by_cases a : k = 0 ∨ k = 2
  · rw [show refExactN k x = aroundN (wholeN x) (wholeN x) by unfold refExactN; rw [if_pos a], whole_eq x h1 h2]
    rcases a with rfl | rfl
    · exact plainExact_0 x w h1 h2
    · exact plainExact_2 x w h1 h2
  · by_cases b : k = 1 ∨ k = 4
    · rw [show refExactN k x = aroundN (wholeN (wrap32 x)) (wholeN (wrap32 x)) by unfold refExactN; rw [if_neg a, if_pos b], whole_eq _ hw.1 hw.2]
      rcases b with rfl | rfl
      · exact plainExact_1 x w
      · exact plainExact_4 x w
    · by_cases c : k = 3 ∨ k = 5
      · have hx : IntKind.u64.wrap x = (((x % 18446744073709551616).toNat : Nat) : Int) := by rw [IntKind.wrap_u64]; omega
        have hb : (x % 18446744073709551616).toNat < 18446744073709551616 := by omega
        rw [show refExactN k x = makeN (x % 18446744073709551616).toNat (x % 18446744073709551616).toNat by unfold refExactN; rw [if_neg a, if_neg b, if_pos c]; exact float_eq _ hb]
        rcases c with rfl | rfl
        · exact plainExact_3 A x _ w hx hb hS
        · exact plainExact_5 A x _ w hx hb hS
      · rw [show refExactN k x = (0, 0, 0) by unfold refExactN; rw [if_neg a, if_neg b, if_neg c]]
        exact plainExact_none k x w (by omega)
end Go.Proofs.YtonhpkigoplmaaaGreatDoor
