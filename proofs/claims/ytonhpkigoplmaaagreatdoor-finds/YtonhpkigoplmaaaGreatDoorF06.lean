/-
  FOrd, SumG, SumP, NrM, NrA.
-/
import Derived.Test.YtonhpkigoplmaaaGreatDoorF05
namespace Go.Proofs.YtonhpkigoplmaaaGreatDoor
open Go.RowKit Go.Extern Ieee

/-- The amount of a rung, in units of the least one. -/
def vr (r : Nat) : Nat := if r < 4503599627370496 then r else (4503599627370496 + r % 4503599627370496) * 2 ^ (r / 4503599627370496 - 1)

theorem vr_succ (r : Nat) : vr r < vr (r + 1) := by
  unfold vr
  by_cases h1 : r + 1 < 4503599627370496
  · rw [if_pos (by omega), if_pos h1]; omega
  · rw [if_neg h1]
    by_cases h2 : r < 4503599627370496
    · rw [if_pos h2]
      have e : r + 1 = 4503599627370496 := by omega
      rw [e]
      have : 4503599627370496 / 4503599627370496 - 1 = 0 := by decide
      rw [this, Nat.pow_zero]; omega
    · rw [if_neg h2]
      by_cases h3 : r % 4503599627370496 + 1 = 4503599627370496
      · have e1 : (r + 1) % 4503599627370496 = 0 := by omega
        have e2 : (r + 1) / 4503599627370496 - 1 = (r / 4503599627370496 - 1) + 1 := by omega
        rw [e1, e2, Nat.pow_succ]
        have hp := Nat.two_pow_pos (r / 4503599627370496 - 1)
        generalize 2 ^ (r / 4503599627370496 - 1) = g at *
        have e3 : r % 4503599627370496 = 4503599627370495 := by omega
        rw [e3]; omega
      · have e1 : (r + 1) % 4503599627370496 = r % 4503599627370496 + 1 := by omega
        have e2 : (r + 1) / 4503599627370496 - 1 = r / 4503599627370496 - 1 := by omega
        rw [e1, e2]
        exact Nat.mul_lt_mul_of_pos_right (by omega) (Nat.two_pow_pos _)

theorem vr_lt {r t : Nat} (h : r < t) : vr r < vr t := by
  obtain ⟨k, rfl⟩ : ∃ k, t = r + 1 + k := ⟨t - (r + 1), by omega⟩
  clear h
  induction k with
  | zero => exact vr_succ r
  | succ k ih => exact Nat.lt_trans ih (vr_succ (r + 1 + k))

theorem read_vr {s : Bool} {r : Nat} (h : r < 9218868437227405312) : ∃ m e, double.read (wd s r) = .number s m e ∧ -1074 ≤ e ∧ m * 2 ^ (e + 1074).toNat = vr r := by
  have hsw : double.signWeight = 9223372036854775808 := rfl
  have hbn : double.binade = 4503599627370496 := rfl
  have hir : double.infRung = 9218868437227405312 := rfl
  have hlp : double.leastPlace = -1074 := rfl
  have hm : wd s r % 9223372036854775808 = r := by unfold wd; split <;> omega
  have hd : (wd s r / 9223372036854775808 % 2 == 1) = s := by
    unfold wd
    cases s
    · rw [if_neg Bool.false_ne_true, show (r + 0) / 9223372036854775808 % 2 = 0 by omega]; rfl
    · rw [if_pos rfl, show (r + 9223372036854775808) / 9223372036854775808 % 2 = 1 by omega]; rfl
  unfold Format.read
  simp only [hsw, hbn, hir, hlp, hm, hd]
  unfold vr
  by_cases hs : r < 4503599627370496
  · rw [if_pos hs, if_pos hs]; exact ⟨_, _, rfl, by omega, by simp⟩
  · rw [if_neg hs, if_pos h, if_neg hs]
    refine ⟨_, _, rfl, by omega, ?_⟩
    congr 2
    omega

theorem read_wd_inf (s : Bool) : double.read (wd s 9218868437227405312) = .infinity s := by cases s <;> rfl

theorem cmp_mul {x y g : Int} (hg : 0 < g) : compare (x * g) (y * g) = compare x y := by
  rcases (show x < y ∨ x = y ∨ y < x by omega) with h | h | h
  · rw [cmp_lt' h, cmp_lt' (Int.mul_lt_mul_of_pos_right h hg)]
  · rw [cmp_eq' h, cmp_eq' (by rw [h])]
  · rw [cmp_gt' h, cmp_gt' (Int.mul_lt_mul_of_pos_right h hg)]

theorem sg_mul (s : Bool) (n k : Nat) : sg s n * (k : Int) = sg s (n * k) := by
  unfold sg
  cases s
  · rw [if_neg Bool.false_ne_true, if_neg Bool.false_ne_true, Int.natCast_mul]
  · rw [if_pos rfl, if_pos rfl, Int.natCast_mul, Int.neg_mul]

theorem cmp_vr (s t : Bool) (r q : Nat) : compare (sg s (vr r)) (sg t (vr q)) = compare (sg s r) (sg t q) := by
  have z : ∀ r, (vr r = 0 ↔ r = 0) := by
    intro r
    constructor
    · intro h
      rcases Nat.eq_zero_or_pos r with h' | h'
      · exact h'
      · have := vr_lt h'; omega
    · rintro rfl; rfl
  have zr := z r
  have zq := z q
  have l1 : r < q → vr r < vr q := vr_lt
  have l2 : q < r → vr q < vr r := vr_lt
  have l3 : r = q → vr r = vr q := fun h => by rw [h]
  generalize vr r = a at *
  generalize vr q = b at *
  have key : ∀ x y x' y' : Int, (x < y ↔ x' < y') → (x = y ↔ x' = y') → compare x y = compare x' y' := by
    intro x y x' y' h1 h2
    rcases (show x < y ∨ x = y ∨ y < x by omega) with h | h | h
    · rw [cmp_lt' h, cmp_lt' (h1.1 h)]
    · rw [cmp_eq' h, cmp_eq' (h2.1 h)]
    · rw [cmp_gt' h, cmp_gt' (by omega)]
  apply key <;> unfold sg <;> cases s <;> cases t <;> simp <;> omega

theorem order_wd {s t : Bool} {r q : Nat} (hr : r ≤ 9218868437227405312) (hq : q ≤ 9218868437227405312) : double.order (wd s r) (wd t q) = some (compare (sg s r) (sg t q)) := by
  unfold Format.order
  rcases (show r < 9218868437227405312 ∨ r = 9218868437227405312 by omega) with h1 | h1 <;> rcases (show q < 9218868437227405312 ∨ q = 9218868437227405312 by omega) with h2 | h2
  · obtain ⟨m, i, e1, e2, e3⟩ := read_vr (s := s) h1
    obtain ⟨n, j, f1, f2, f3⟩ := read_vr (s := t) h2
    rw [e1, f1]
    simp only [Datum.order, signed_eq]
    rw [← cmp_vr s t r q, ← e3, ← f3]
    congr 1
    have hg : (0 : Int) < ((2 ^ (min i j + 1074).toNat : Nat) : Int) := by
      have := Nat.two_pow_pos (min i j + 1074).toNat
      omega
    rw [← cmp_mul hg, sg_mul, sg_mul, Nat.mul_assoc, Nat.mul_assoc, ← Nat.pow_add, ← Nat.pow_add]
    congr 4 <;> congr 1 <;> omega
  · obtain ⟨m, i, e1, e2, e3⟩ := read_vr (s := s) h1
    subst h2
    rw [e1, read_wd_inf]
    simp only [Datum.order]
    unfold sg
    cases t
    · rw [cmp_lt' (by cases s <;> simp <;> omega)]; rfl
    · rw [cmp_gt' (by cases s <;> simp <;> omega)]; rfl
  · obtain ⟨m, i, e1, e2, e3⟩ := read_vr (s := t) h2
    subst h1
    rw [e1, read_wd_inf]
    simp only [Datum.order]
    unfold sg
    cases s
    · rw [cmp_gt' (by cases t <;> simp <;> omega)]; rfl
    · rw [cmp_lt' (by cases t <;> simp <;> omega)]; rfl
  · subst h1
    subst h2
    rw [read_wd_inf, read_wd_inf]
    cases s <;> cases t <;> rfl

/-- A float that stands at a place among the plain ones; it is no NaN, and not -0. -/
structure FR (d : Nat) (p : Int) : Prop where
  lt : d < 18446744073709551616
  nz : d ≠ 9223372036854775808
  num : d % 9223372036854775808 ≤ 9218868437227405312
  pos : posF d = p

theorem wd_self {d : Nat} (h : d < 18446744073709551616) : wd (decide (9223372036854775808 ≤ d)) (d % 9223372036854775808) = d := by
  unfold wd
  by_cases hd : 9223372036854775808 ≤ d
  · rw [decide_eq_true hd, if_pos rfl]; omega
  · rw [decide_eq_false hd, if_neg Bool.false_ne_true]; omega

/-- A word's signed rung. -/
def kw (d : Nat) : Int := sg (decide (9223372036854775808 ≤ d)) (d % 9223372036854775808)

theorem order_kw {d f : Nat} {p q : Int} (hd : FR d p) (hf : FR f q) : double.order d f = some (compare (kw d) (kw f)) := by
  have := order_wd (s := decide (9223372036854775808 ≤ d)) (t := decide (9223372036854775808 ≤ f)) hd.num hf.num
  rwa [wd_self hd.lt, wd_self hf.lt] at this

theorem posF_kw (d : Nat) : posF d = if kw d = 0 then 0 else sgI (decide (kw d < 0)) (clampR (kw d).natAbs) := by
  unfold posF kw sg
  by_cases h0 : d % 9223372036854775808 = 0
  · rw [if_pos h0, h0]; split <;> simp
  · rw [if_neg h0]
    by_cases hd : 9223372036854775808 ≤ d
    · rw [decide_eq_true hd, if_pos rfl, if_neg (by omega), decide_eq_true (by omega)]
      congr 2; omega
    · rw [decide_eq_false hd, if_neg Bool.false_ne_true, if_neg (by omega), decide_eq_false (by omega)]
      congr 2

theorem pos_mono_kw {x y : Int} (h : x ≤ y) : (if x = 0 then 0 else sgI (decide (x < 0)) (clampR x.natAbs)) ≤ (if y = 0 then 0 else sgI (decide (y < 0)) (clampR y.natAbs)) := by
  have c1 := clampR_bounds (x.natAbs : Int)
  have c2 := clampR_bounds (y.natAbs : Int)
  rcases (show x < 0 ∨ x = 0 ∨ 0 < x by omega) with hx | hx | hx
  · rw [if_neg (by omega), decide_eq_true hx]
    rcases (show y < 0 ∨ y = 0 ∨ 0 < y by omega) with hy | hy | hy
    · rw [if_neg (by omega), decide_eq_true hy]
      have := clampR_mono (r := (y.natAbs : Int)) (t := (x.natAbs : Int)) (by omega)
      unfold sgI
      rw [if_pos rfl, if_pos rfl]; omega
    · rw [if_pos hy]; unfold sgI; rw [if_pos rfl]; omega
    · rw [if_neg (by omega), decide_eq_false (by omega)]; unfold sgI; rw [if_pos rfl, if_neg Bool.false_ne_true]; omega
  · rw [if_pos hx]
    rcases (show y = 0 ∨ 0 < y by omega) with hy | hy
    · rw [if_pos hy]; exact Int.le_refl _
    · rw [if_neg (by omega), decide_eq_false (by omega)]; unfold sgI; rw [if_neg Bool.false_ne_true]; omega
  · rw [if_neg (by omega), if_neg (by omega), decide_eq_false (by omega), decide_eq_false (by omega)]
    unfold sgI
    rw [if_neg Bool.false_ne_true, if_neg Bool.false_ne_true]
    exact clampR_mono (by omega)

/-- The lower, the greater one of two floats. -/
def fmin (x y : Nat) : Nat := if kw x < kw y then x else y
def fmax (x y : Nat) : Nat := if kw x < kw y then y else x

theorem FR.mn {d f : Nat} {p q : Int} (hd : FR d p) (hf : FR f q) : FR (fmin d f) (min p q) := by
  have h1 := posF_kw d
  have h2 := posF_kw f
  rw [hd.pos] at h1
  rw [hf.pos] at h2
  unfold fmin
  by_cases h : kw d < kw f
  · have := pos_mono_kw (x := kw d) (y := kw f) (by omega)
    rw [if_pos h, show min p q = p by omega]; exact hd
  · have := pos_mono_kw (x := kw f) (y := kw d) (by omega)
    rw [if_neg h, show min p q = q by omega]; exact hf

theorem FR.mx {d f : Nat} {p q : Int} (hd : FR d p) (hf : FR f q) : FR (fmax d f) (max p q) := by
  have h1 := posF_kw d
  have h2 := posF_kw f
  rw [hd.pos] at h1
  rw [hf.pos] at h2
  unfold fmax
  by_cases h : kw d < kw f
  · have := pos_mono_kw (x := kw d) (y := kw f) (by omega)
    rw [if_pos h, show max p q = q by omega]; exact hf
  · have := pos_mono_kw (x := kw f) (y := kw d) (by omega)
    rw [if_neg h, show max p q = p by omega]; exact hd

theorem kw_inj {d f : Nat} {p q : Int} (hd : FR d p) (hf : FR f q) (h : kw d = kw f) : d = f := by
  have a1 := hd.lt
  have a2 := hd.nz
  have b1 := hf.lt
  have b2 := hf.nz
  unfold kw sg at h
  by_cases x : 9223372036854775808 ≤ d <;> by_cases y : 9223372036854775808 ≤ f
  · rw [decide_eq_true x, decide_eq_true y, if_pos rfl, if_pos rfl] at h; omega
  · rw [decide_eq_true x, decide_eq_false y, if_pos rfl, if_neg Bool.false_ne_true] at h; omega
  · rw [decide_eq_false x, decide_eq_true y, if_pos rfl, if_neg Bool.false_ne_true] at h; omega
  · rw [decide_eq_false x, decide_eq_false y, if_neg Bool.false_ne_true, if_neg Bool.false_ne_true] at h; omega

theorem run_min_float {P : Program} (w : World) (ts : Array TypeId) (t : TypeId) {x y : Nat} {p q : Int} (hx : FR x p) (hy : FR y q) : (Builtin.min_ ts t #[.float .f64 x, .float .f64 y]).run P w = .ok (.float .f64 (fmin x y)) w := by
  have ho : FloatKind.f64.format.order x y = some (compare (kw x) (kw y)) := order_kw hx hy
  rcases (show kw x < kw y ∨ kw x = kw y ∨ kw y < kw x by omega) with h | h | h
  · rw [cmp_lt' h] at ho
    simp [Builtin.min_, Builtin.min2, ho, fmin, h]
  · rw [cmp_eq' h] at ho
    have := kw_inj hx hy h
    subst this
    simp [Builtin.min_, Builtin.min2, ho, fmin]
  · rw [cmp_gt' h] at ho
    have : ¬ kw x < kw y := by omega
    simp [Builtin.min_, Builtin.min2, ho, fmin, this]

theorem run_max_float {P : Program} (w : World) (ts : Array TypeId) (t : TypeId) {x y : Nat} {p q : Int} (hx : FR x p) (hy : FR y q) : (Builtin.max_ ts t #[.float .f64 x, .float .f64 y]).run P w = .ok (.float .f64 (fmax x y)) w := by
  have ho : FloatKind.f64.format.order x y = some (compare (kw x) (kw y)) := order_kw hx hy
  rcases (show kw x < kw y ∨ kw x = kw y ∨ kw y < kw x by omega) with h | h | h
  · rw [cmp_lt' h] at ho
    simp [Builtin.max_, Builtin.max2, ho, fmax, h]
  · rw [cmp_eq' h] at ho
    have := kw_inj hx hy h
    subst this
    simp [Builtin.max_, Builtin.max2, ho, fmax]
  · rw [cmp_gt' h] at ho
    have : ¬ kw x < kw y := by omega
    simp [Builtin.max_, Builtin.max2, ho, fmax, this]

/-- The places of the three kinds of amounts. -/
theorem posF_cases (d : Nat) (h0 : d % 9223372036854775808 ≠ 0) : posF d = if 9223372036854775808 ≤ d then -clampR ((d % 9223372036854775808 : Nat) : Int) else clampR ((d % 9223372036854775808 : Nat) : Int) := by
  unfold posF sgI
  rw [if_neg h0]
  by_cases hd : 9223372036854775808 ≤ d
  · rw [decide_eq_true hd, if_pos rfl, if_pos hd]
  · rw [decide_eq_false hd, if_neg Bool.false_ne_true, if_neg hd]

theorem posF_abs (d : Nat) (h0 : d % 9223372036854775808 ≠ 0) : ((posF d).natAbs : Int) = clampR ((d % 9223372036854775808 : Nat) : Int) := by
  have := clampR_bounds ((d % 9223372036854775808 : Nat) : Int)
  rw [posF_cases d h0]
  split <;> omega

theorem clampR_cases (r : Int) : (r < 553942754166571008 ∧ clampR r = 553942754166571007) ∨ (8660422083433463808 < r ∧ clampR r = 8660422083433463809) ∨ (553942754166571008 ≤ r ∧ r ≤ 8660422083433463808 ∧ clampR r = r) := by
  unfold clampR
  by_cases h1 : r < 553942754166571008
  · left; exact ⟨h1, if_pos h1⟩
  · right
    by_cases h2 : 8660422083433463808 < r
    · left; exact ⟨h2, by rw [if_neg h1, if_pos h2]⟩
    · right; exact ⟨by omega, by omega, by rw [if_neg h1, if_neg h2]⟩

/-- A float is plain where its place is. -/
theorem FR.plain {d : Nat} {p : Int} (h : FR d p) : (plainN d).isSome = plP p := by
  have h1 := h.num
  rw [← h.pos]
  by_cases h0 : d % 9223372036854775808 = 0
  · have : posF d = 0 := by unfold posF; rw [if_pos h0]
    rw [this]
    unfold plainN
    rw [if_pos (by omega)]; rfl
  · have ha := posF_abs d h0
    unfold plainN plP
    rw [if_neg (by omega)]
    rcases clampR_cases ((d % 9223372036854775808 : Nat) : Int) with ⟨c1, c2⟩ | ⟨c1, c2⟩ | ⟨c1, c3, c2⟩
    · rw [if_pos (by omega), decide_eq_false (by omega)]; rfl
    · rw [if_pos (by omega), decide_eq_false (by omega)]; rfl
    · rw [if_neg (by omega)]
      rw [show decide (posF d = 0 ∨ 553942754166571008 ≤ (posF d).natAbs ∧ (posF d).natAbs ≤ 8660422083433463808) = true from decide_eq_true (by omega)]; rfl

/-- The word of a plain place. -/
theorem FR.word {d : Nat} {p : Int} (h : FR d p) (hp : plP p = true) : d = wdP p := by
  have h1 := h.num
  have h2 := h.lt
  have h3 := h.nz
  rw [← h.pos] at hp ⊢
  by_cases h0 : d % 9223372036854775808 = 0
  · have : posF d = 0 := by unfold posF; rw [if_pos h0]
    rw [this]
    show d = 0
    omega
  · have ha := posF_abs d h0
    have hc := posF_cases d h0
    unfold plP at hp
    rw [decide_eq_true_eq] at hp
    unfold wdP wd
    rcases clampR_cases ((d % 9223372036854775808 : Nat) : Int) with ⟨c1, c2⟩ | ⟨c1, c2⟩ | ⟨c1, c3, c2⟩
    · omega
    · omega
    · by_cases hd : 9223372036854775808 ≤ d
      · rw [if_pos hd] at hc
        rw [decide_eq_true (by omega), if_pos rfl]; omega
      · rw [if_neg hd] at hc
        rw [decide_eq_false (by omega), if_neg Bool.false_ne_true]; omega

/-- A plain float's number stands where the float does. -/
theorem posV_plain {b : Nat} {x : Bool × Nat × Int} (hb : b < 18446744073709551616) (h : plainN b = some x) (way : Int) : posV x way = posF b := by
  unfold plainN at h
  split at h
  · rename_i h0
    cases h
    unfold posV posF
    rw [if_pos rfl, if_pos (by omega)]
  · rename_i h0
    split at h
    · cases h
    · rename_i h1
      cases h
      have hm : b % 9223372036854775808 ≠ 0 := by omega
      unfold posV
      simp only
      rw [if_neg (by omega), posF_cases b hm]
      have hbl : bl (b % 4503599627370496 + 4503599627370496) = 53 := bl53 (by omega) (by omega)
      have hr : endR (decide (b / 9223372036854775808 = 1)) (b % 4503599627370496 + 4503599627370496) (((b / 4503599627370496 % 2048 : Nat) : Int) - 1075) way = ((b % 9223372036854775808 : Nat) : Int) := by
        unfold endR rung mf
        rw [inex_small (by omega), hbl, Bool.and_false, if_neg Bool.false_ne_true, if_pos (by omega)]
        simp only [Nat.sub_self, Nat.pow_zero, Nat.mul_one]
        omega
      rw [hr]
      unfold sgI
      by_cases hd : 9223372036854775808 ≤ b
      · rw [decide_eq_true (by omega), if_pos rfl, if_pos hd]
      · rw [decide_eq_false (by omega), if_neg Bool.false_ne_true, if_neg hd]
end Go.Proofs.YtonhpkigoplmaaaGreatDoor
namespace Go.Proofs.YtonhpkigoplmaaaGreatDoor
open Go.RowKit Go.Extern Ieee

/-- A triple stands for z * 2 ^ e. -/
def MeansT (e z : Int) (x : Bool × Nat × Int) : Prop := Means e z x.1 x.2.1 x.2.2

theorem means_self (e z : Int) : MeansT e z (decide (z < 0), z.natAbs, e) := by
  intro c _ _
  unfold sg
  by_cases h : z < 0
  · simp only [decide_eq_true h, if_true]
    rw [Int.natCast_mul, show ((z.natAbs : Nat) : Int) = -z by omega, Int.neg_mul, Int.neg_neg]
  · simp only [decide_eq_false h, Bool.false_eq_true, if_false]
    rw [Int.natCast_mul, show ((z.natAbs : Nat) : Int) = z by omega]

theorem sg_le_cancel {s t : Bool} {n m k : Nat} (hk : 0 < k) (h : sg s (n * k) ≤ sg t (m * k)) : sg s n ≤ sg t m := by
  rw [← sg_mul, ← sg_mul] at h
  exact Int.le_of_mul_le_mul_right h (by omega)

theorem leV_means {e z z' : Int} {x y : Bool × Nat × Int} (hx : MeansT e z x) (hy : MeansT e z' y) (h : z ≤ z') : leV x y := by
  obtain ⟨s, n, p⟩ := x
  obtain ⟨t, m, q⟩ := y
  unfold leV lvA lvB
  simp only
  have a := hx (min e (min p q)) (by simp only; omega) (by omega)
  have b := hy (min e (min p q)) (by simp only; omega) (by omega)
  simp only at a b
  apply sg_le_cancel (k := 2 ^ (min p q - min e (min p q)).toNat) (Nat.two_pow_pos _)
  rw [Nat.mul_assoc, Nat.mul_assoc, ← Nat.pow_add, ← Nat.pow_add]
  rw [show (p - min p q).toNat + (min p q - min e (min p q)).toNat = (p - min e (min p q)).toNat by omega, show (q - min p q).toNat + (min p q - min e (min p q)).toNat = (q - min e (min p q)).toNat by omega, a, b]
  exact Int.mul_le_mul_of_nonneg_right h (Int.natCast_nonneg _)

theorem posV_means {e z : Int} {x : Bool × Nat × Int} (hx : MeansT e z x) (way : Int) (hw : way = -1 ∨ way = 1) : posV x way = posV (decide (z < 0), z.natAbs, e) way := by
  have h1 := posV_mono way hw (leV_means hx (means_self e z) (Int.le_refl _))
  have h2 := posV_mono way hw (leV_means (means_self e z) hx (Int.le_refl _))
  omega

theorem sumN_means {e a b : Int} {x y : Bool × Nat × Int} (hx : MeansT e a x) (hy : MeansT e b y) : MeansT e (a + b) (sumN x.1 x.2.1 x.2.2 y.1 y.2.1 y.2.2) := by
  obtain ⟨s, n, p⟩ := x
  obtain ⟨t, m, q⟩ := y
  simp only
  have key : ∀ c, c ≤ min p q → c ≤ e → (sg s (lvA n p q) + sg t (lvB m p q)) * ((2 ^ (min p q - c).toNat : Nat) : Int) = (a + b) * ((2 ^ (e - c).toNat : Nat) : Int) := by
    intro c h1 h2
    have a' := hx c (by simp only; omega) h2
    have b' := hy c (by simp only; omega) h2
    simp only at a' b'
    rw [Int.add_mul, Int.add_mul, ← a', ← b', sg_mul, sg_mul]
    unfold lvA lvB
    rw [Nat.mul_assoc, Nat.mul_assoc, ← Nat.pow_add, ← Nat.pow_add]
    rw [show (p - min p q).toNat + (min p q - c).toNat = (p - c).toNat by omega, show (q - min p q).toNat + (min p q - c).toNat = (q - c).toNat by omega]
  generalize hA : lvA n p q = A at *
  generalize hB : lvB m p q = B at *
  unfold sumN
  rw [hA, hB]
  by_cases hst : s = t
  · subst hst
    rw [if_pos rfl]
    intro c h1 h2
    rw [← key c h1 h2, ← sg_mul]
    congr 1
    unfold sg
    cases s <;> simp <;> omega
  · rw [if_neg hst]
    have ht : t = !s := by cases s <;> cases t <;> simp_all
    subst ht
    by_cases hAB : A = B
    · rw [if_pos hAB]
      have hz : a + b = 0 := by
        have := key (min (min p q) e) (by omega) (by omega)
        subst hAB
        have e0 : sg s A + sg (!s) A = 0 := by unfold sg; cases s <;> simp <;> omega
        rw [e0, Int.zero_mul] at this
        have hp := Nat.two_pow_pos (e - min (min p q) e).toNat
        rcases Int.mul_eq_zero.1 this.symm with h | h
        · exact h
        · omega
      intro c h1 h2
      rw [hz, Int.zero_mul]
      simp [sg]
    · rw [if_neg hAB]
      by_cases hlt : B < A
      · rw [if_pos hlt]
        intro c h1 h2
        rw [← key c h1 h2, ← sg_mul]
        congr 1
        unfold sg
        cases s <;> simp <;> omega
      · rw [if_neg hlt]
        intro c h1 h2
        rw [← key c h1 h2, ← sg_mul]
        congr 1
        unfold sg
        cases s <;> simp <;> omega

/-- A float at a number's end. -/
theorem FR_end (s : Bool) {n : Nat} {e : Int} (way : Int) (h0 : n ≠ 0) (h1 : 0 < endR s n e way) (h2 : endR s n e way ≤ 9218868437227405312) : FR (wd s (endR s n e way).toNat) (posV (s, n, e) way) := by
  have hp : posV (s, n, e) way = sgI s (clampR (endR s n e way)) := by unfold posV; rw [if_neg h0]
  rw [hp]
  generalize endR s n e way = r at *
  have hm : wd s r.toNat % 9223372036854775808 = r.toNat := by unfold wd; split <;> omega
  refine ⟨wd_lt (by omega), ?_, by omega, ?_⟩
  · intro hc; rw [hc] at hm; omega
  · rw [posF_cases _ (by omega), hm, show ((r.toNat : Nat) : Int) = r by omega]
    unfold sgI wd
    cases s
    · rw [if_neg Bool.false_ne_true, if_neg (by omega), if_neg Bool.false_ne_true]
    · rw [if_pos rfl, if_pos (by omega), if_pos rfl]

theorem FR_zero : FR 0 0 := ⟨by omega, by omega, by omega, rfl⟩

theorem FR_plain {b : Nat} (hb : b < 18446744073709551616) (hz : b ≠ 9223372036854775808) (hp : (plainN b).isSome = true) : FR b (posF b) := by
  refine ⟨hb, hz, ?_, rfl⟩
  apply Decidable.byContradiction
  intro hc
  unfold plainN at hp
  rw [if_neg (by omega), if_pos (by omega)] at hp
  cases hp

theorem rung_bounds {n : Nat} (e : Int) (h0 : n ≠ 0) : (e + bl n + 1022) * 4503599627370496 ≤ rung n e ∧ rung n e < (e + bl n + 1023) * 4503599627370496 := by
  have := mf_bounds (Nat.pos_of_ne_zero h0)
  unfold rung
  omega

theorem endR_bounds (s : Bool) {n : Nat} (e way : Int) : rung n e ≤ endR s n e way ∧ endR s n e way ≤ rung n e + 1 := by
  unfold endR
  split <;> omega

theorem nearI_fd {e z : Int} (h0 : z ≠ 0) (h1 : -1022 ≤ e) (h2 : e + bl z.natAbs ≤ 1021) : fd e (nearI z) = fd e z := by
  have hn : z.natAbs ≠ 0 := by omega
  obtain ⟨f1, f2, f3, f4⟩ := nearM_facts hn
  have habs := nearI_abs z
  have hsgn := nearI_sgn z
  have hlt : decide (nearI z < 0) = decide (z < 0) := by
    apply decide_eq_decide.2
    by_cases h : z < 0
    · have := hsgn.1 h; omega
    · have := hsgn.2 h; omega
  have hN0 : nearI z ≠ 0 := by omega
  rw [fd_wd hN0 ⟨by omega, by rw [habs]; omega⟩, fd_wd h0 ⟨by omega, by omega⟩, habs, hlt, nup_rep f2, f3]
  simp

theorem near_side (z : Int) : (if z - nearI z = 0 then Ordering.eq else if z - nearI z < 0 then .lt else .gt) = side (decide (z < 0)) z.natAbs := by
  obtain ⟨c1, c2, c3, c4, c5⟩ := nearM_cmp z.natAbs
  have hsgn := nearI_sgn z
  unfold side
  by_cases h : z < 0
  · have hs := hsgn.1 h
    rw [decide_eq_true h]
    cases hi : inex z.natAbs
    · have := c1 hi
      rw [if_pos (by omega), if_pos rfl]
    · rw [if_neg (show ¬ true = false by simp)]
      cases hu : nup z.natAbs
      · have := c3 hi hu
        rw [if_neg (by omega), if_pos (by omega)]; rfl
      · have := c2 hi hu
        rw [if_neg (by omega), if_neg (by omega)]; rfl
  · have hs := hsgn.2 h
    rw [decide_eq_false h]
    cases hi : inex z.natAbs
    · have := c1 hi
      rw [if_pos (by omega), if_pos rfl]
    · rw [if_neg (show ¬ true = false by simp)]
      cases hu : nup z.natAbs
      · have := c3 hi hu
        rw [if_neg (by omega), if_neg (by omega)]; rfl
      · have := c2 hi hu
        rw [if_neg (by omega), if_pos (by omega)]; rfl

/-- The ends around z * 2 ^ e. -/
def EndsAt (e z : Int) (d u : Nat) : Prop := FR d (posV (decide (z < 0), z.natAbs, e) (-1)) ∧ FR u (posV (decide (z < 0), z.natAbs, e) 1)

theorem fits8 {e z : Int} {M : Nat} (he1 : -1022 ≤ e) (he2 : e + M ≤ 1010) (h : z.natAbs < 8 * 2 ^ M) : Fits e z ∧ e + bl z.natAbs ≤ 1020 := by
  have : bl z.natAbs ≤ M + 3 := bl_le (by rw [Nat.pow_add]; omega)
  exact ⟨⟨he1, by omega⟩, by omega⟩

theorem near_bound {z : Int} {M : Nat} {k : Nat} (h : z.natAbs ≤ 2 ^ k * 2 ^ M) : (nearI z).natAbs ≤ 2 ^ k * 2 ^ M := by
  have hp : Pw ((2 ^ k * 2 ^ M : Nat) : Int) := ⟨k + M, by rw [Nat.pow_add]⟩
  have r : Rep ((2 ^ k * 2 ^ M : Nat) : Int) := rep_pw hp (Int.dvd_refl _) (by omega)
  have h1 := near_le (z := z) r (by omega)
  have h2 := near_ge (z := z) (rep_neg r) (by omega)
  omega

/-- A call that hands back two ends. -/
def Gives (f : Nat) (args : Array Value) (d u : Nat) : Prop := ∀ w : World, Calls Tryz.prog f args w fun ev w' => ev = .returned (.agg #[.float .f64 d, .float .f64 u]) ∧ Below w.heap.size w w'

/-- The ends, by the nearest float and the remainder. -/
theorem around_ends {e z : Int} {M : Nat} (he1 : -1022 ≤ e) (he2 : e + M ≤ 1010) (hz : z.natAbs < 2 * 2 ^ M) (hr : (z - nearI z).natAbs < 8 * 2 ^ M) :
    ∃ d u, EndsAt e z d u ∧ Gives 141 #[.float .f64 (fd e z), .float .f64 (fd e (z - nearI z))] d u := by
  by_cases h0 : z = 0
  · subst h0
    rw [nearI_zero, Int.sub_self, fd_zero]
    exact ⟨0, 0, ⟨FR_zero, FR_zero⟩, fun w => aroundF_eq 0 0 w rfl⟩
  · obtain ⟨hF, hF2⟩ := fits8 he1 he2 hr
    have hq := ord_fd hF (by omega)
    rw [near_side] at hq
    have hbl : bl z.natAbs ≤ M + 1 := bl_le (by rw [Nat.pow_succ]; omega)
    have hbp := bl_pos (n := z.natAbs) (by omega)
    have hn : z.natAbs ≠ 0 := by omega
    have rb := rung_bounds e hn
    have e1 := endR_bounds (decide (z < 0)) (n := z.natAbs) e (-1)
    have e2 := endR_bounds (decide (z < 0)) (n := z.natAbs) e 1
    exact ⟨_, _, ⟨FR_end _ (-1) hn (by omega) (by omega), FR_end _ 1 hn (by omega) (by omega)⟩, fun w => around_round (decide (z < 0)) z.natAbs e _ w hn (by omega) (by omega) hq⟩

theorem sumG_any {e a b : Int} {M : Nat} (he1 : -1022 ≤ e) (he2 : e + M ≤ 1010) (ha : a.natAbs < 2 ^ M) (hb : b.natAbs < 2 ^ M) (ra : Rep a) (rb : Rep b) (ok : TwoOk a b) :
    ∃ d u, EndsAt e (a + b) d u ∧ Gives 89 #[.float .f64 (fd e a), .float .f64 (fd e b)] d u := by
  unfold TwoOk at ok
  have hN := near_bound (z := a + b) (M := M) (k := 1) (by omega)
  have hV := near_bound (z := nearI (a + b) - a) (M := M) (k := 2) (by omega)
  have rN := nearI_rep (a + b)
  have rV := nearI_rep (nearI (a + b) - a)
  have key : ∀ z : Int, z.natAbs < 8 * 2 ^ M → Fits e z := fun z h => (fits8 he1 he2 h).1
  have fdn : ∀ z : Int, z.natAbs < 8 * 2 ^ M → fd e (nearI z) = fd e z := by
    intro z h
    by_cases h0 : z = 0
    · subst h0; rfl
    · exact nearI_fd h0 he1 (by have := (fits8 he1 he2 h).2; omega)
  obtain ⟨d, u, hE, hA⟩ := around_ends (e := e) (z := a + b) (M := M) he1 he2 (by omega) (by omega)
  have nN := fdn (a + b) (by omega)
  have nV := fdn (nearI (a + b) - a) (by omega)
  generalize nearI (a + b) = N at *
  generalize nearI (N - a) = V at *
  generalize 2 ^ M = g at *
  obtain ⟨o1, o2, o3, o4⟩ := ok
  have h1 := add_fd (key a (by omega)) (key b (by omega)) ra rb (key (a + b) (by omega))
  rw [← nN] at h1
  have h2 := sub_fd (key N (by omega)) (key a (by omega)) rN ra (key (N - a) (by omega))
  rw [← nV] at h2
  have h3 := sub_fd (key N (by omega)) (key V (by omega)) rN rV (key (N - V) (by omega))
  have h4 := sub_fd (key a (by omega)) (key (N - V) (by omega)) ra o1 (key (a - (N - V)) (by omega))
  have h5 := sub_fd (key b (by omega)) (key V (by omega)) rb rV (key (b - V) (by omega))
  have h6 := add_fd (key (a - (N - V)) (by omega)) (key (b - V) (by omega)) o2 o3 (key _ (by omega))
  rw [show a - (N - V) + (b - V) = a + b - N by omega] at h6
  rw [← nN] at hA
  exact ⟨d, u, hE, fun w => sumF_any _ _ _ _ _ _ _ _ _ _ w h1 h2 h3 h4 h5 h6 hA⟩

theorem means_zero (e : Int) (s : Bool) (p : Int) : Means e 0 s 0 p := by
  intro c _ _
  rw [Nat.zero_mul, Int.zero_mul]
  cases s <;> rfl

/-- -0 as the second one. -/
theorem sumG_minus {e a : Int} {M : Nat} (he1 : -1022 ≤ e) (he2 : e + M ≤ 1010) (ha : a.natAbs < 2 ^ M) (ra : Rep a) :
    ∃ d u, EndsAt e a d u ∧ Gives 89 #[.float .f64 (fd e a), .float .f64 9223372036854775808] d u := by
  have key : ∀ z : Int, z.natAbs < 8 * 2 ^ M → Fits e z := fun z h => (fits8 he1 he2 h).1
  obtain ⟨d, u, hE, hA⟩ := around_ends (e := e) (z := a) (M := M) he1 he2 (by omega) (by rw [near_rep ra]; omega)
  rw [near_rep ra, Int.sub_self, fd_zero] at hA
  have h1 : double.add (fd e a) 9223372036854775808 = some (fd e a) := by
    obtain ⟨s, m, p, h1, h2, h3, h4⟩ := read_fd (key a (by omega)) ra
    have hz : double.read 9223372036854775808 = .number true 0 (-1074) := rfl
    unfold Format.add
    rw [h1, hz]
    have := sum_means h2 (means_zero e true (-1074)) (by rw [Int.add_zero]; exact key a (by omega)) (fun h => by rw [h3 (by omega)]; rfl)
    rwa [Int.add_zero] at this
  have h2 := sub_fd (key a (by omega)) (key a (by omega)) ra ra (by rw [Int.sub_self]; exact key 0 (by omega))
  rw [Int.sub_self, fd_zero] at h2
  have h3 := sub_fd (key a (by omega)) (key 0 (by omega)) ra rep_zero (by rw [Int.sub_zero]; exact key a (by omega))
  rw [Int.sub_zero, fd_zero] at h3
  have h5 : double.sub 9223372036854775808 0 = some 9223372036854775808 := rfl
  have h6 : double.add 0 9223372036854775808 = some 0 := rfl
  exact ⟨d, u, hE, fun w => sumF_any _ _ _ _ _ _ _ _ _ _ w h1 h2 h3 h2 h5 h6 hA⟩
end Go.Proofs.YtonhpkigoplmaaaGreatDoor
namespace Go.Proofs.YtonhpkigoplmaaaGreatDoor
open Go.RowKit Go.Extern Ieee

/-- A plain float's number in units of 2 ^ -953. -/
def vp (x : Bool × Nat × Int) : Int := sg x.1 (x.2.1 * 2 ^ (x.2.2 + 953).toNat)

/-- What is known of a plain float's number. -/
def Plnum (x : Bool × Nat × Int) : Prop := (x = (false, 0, 0)) ∨ (4503599627370496 ≤ x.2.1 ∧ x.2.1 < 9007199254740992 ∧ -952 ≤ x.2.2 ∧ x.2.2 ≤ 848)

theorem plain_num {b : Nat} {x : Bool × Nat × Int} (h : plainN b = some x) : Plnum x := by
  unfold plainN at h
  split at h
  · cases h; left; rfl
  · split at h
    · cases h
    · cases h
      right
      simp only
      omega

theorem Plnum.means {x : Bool × Nat × Int} (h : Plnum x) : MeansT (-953) (vp x) x := by
  obtain ⟨s, n, e⟩ := x
  intro c h1 h2
  unfold vp
  simp only at *
  rw [sg_mul, Nat.mul_assoc, ← Nat.pow_add]
  rcases h with h | h
  · cases h; simp
  · simp only at h
    congr 3
    omega

theorem Plnum.vp_abs {x : Bool × Nat × Int} (_h : Plnum x) : (vp x).natAbs = x.2.1 * 2 ^ (x.2.2 + 953).toNat := (sg_natAbs rfl).symm

theorem vp_zero : vp (false, 0, 0) = 0 := by
  unfold vp
  rw [Nat.zero_mul]; rfl

theorem Plnum.rep {x : Bool × Nat × Int} (h : Plnum x) : Rep (vp x) := by
  show inex _ = false
  rw [h.vp_abs]
  rcases h with h | h
  · cases h
    rw [Nat.zero_mul]; rfl
  · exact inex_shift (by omega) _ (inex_small (by rw [bl53 h.1 h.2.1]; omega))

theorem pow_mono {a b : Nat} (h : a ≤ b) : (2 : Nat) ^ a ≤ 2 ^ b := Nat.pow_le_pow_right (by decide) h

/-- Bits of the greatest plain float in these units. -/
def plN : Nat := 1802
def plM : Nat := 53 + plN
theorem plN_eq : plN = 1802 := rfl
theorem plM_eq : plM = 53 + plN := rfl

theorem Plnum.lt {x : Bool × Nat × Int} (h : Plnum x) : (vp x).natAbs < 2 ^ plM := by
  rw [h.vp_abs]
  rcases h with h | h
  · cases h
    rw [Nat.zero_mul]; exact Nat.two_pow_pos _
  · have h1 : (2 : Nat) ^ (x.2.2 + 953).toNat ≤ 2 ^ plN := pow_mono (by have := plN_eq; omega)
    rw [plM_eq, Nat.pow_add]
    exact Nat.lt_of_lt_of_le (Nat.mul_lt_mul_of_pos_right (by rw [p53]; exact h.2.1) (Nat.two_pow_pos _)) (Nat.mul_le_mul_left _ h1)

theorem Plnum.big {x : Bool × Nat × Int} (h : Plnum x) : vp x = 0 ∨ 9007199254740992 ≤ (vp x).natAbs := by
  rcases h with h | h
  · cases h; left; exact vp_zero
  · right
    rw [Plnum.vp_abs (Or.inr h)]
    have h1 : (2 : Nat) ^ 1 ≤ 2 ^ (x.2.2 + 953).toNat := pow_mono (by omega)
    have := Nat.mul_le_mul h.1 h1
    omega

theorem plain_fd {b : Nat} {x : Bool × Nat × Int} (hb : b < 18446744073709551616) (hz : b ≠ 9223372036854775808) (h : plainN b = some x) : b = fd (-953) (vp x) := by
  have hp := plain_num h
  have hpos := posV_plain hb h 1
  unfold plainN at h
  split at h
  · cases h
    rw [vp_zero, fd_zero]; omega
  · rename_i h0
    split at h
    · cases h
    · rename_i h1
      cases h
      have hbl : bl (b % 4503599627370496 + 4503599627370496) = 53 := bl53 (by omega) (by omega)
      have hn : b % 4503599627370496 + 4503599627370496 ≠ 0 := by omega
      have habs := hp.vp_abs
      have hrep := hp.rep
      simp only at habs
      have hbs := bl_shift hn (((b / 4503599627370496 % 2048 : Nat) : Int) - 1075 + 953).toNat
      rw [← habs] at hbs
      have hnz : vp (decide (b / 9223372036854775808 = 1), b % 4503599627370496 + 4503599627370496, ((b / 4503599627370496 % 2048 : Nat) : Int) - 1075) ≠ 0 := by
        intro hc
        rw [hc] at habs
        have := Nat.mul_pos (Nat.pos_of_ne_zero hn) (Nat.two_pow_pos (((b / 4503599627370496 % 2048 : Nat) : Int) - 1075 + 953).toNat)
        rw [← habs] at this
        exact absurd this (by decide)
      rw [fd_wd hnz ⟨by omega, by omega⟩, nup_rep hrep, habs, rung_shift hn]
      have hr : rung (b % 4503599627370496 + 4503599627370496) (-953 + (((((b / 4503599627370496 % 2048 : Nat) : Int) - 1075 + 953).toNat : Nat) : Int)) = ((b % 9223372036854775808 : Nat) : Int) := by
        unfold rung mf
        rw [hbl, if_pos (by omega)]
        simp only [Nat.sub_self, Nat.pow_zero, Nat.mul_one]
        omega
      rw [hr]
      have hs : decide (vp (decide (b / 9223372036854775808 = 1), b % 4503599627370496 + 4503599627370496, ((b / 4503599627370496 % 2048 : Nat) : Int) - 1075) < 0) = decide (9223372036854775808 ≤ b) := by
        have hpp := Nat.mul_pos (Nat.pos_of_ne_zero hn) (Nat.two_pow_pos (((b / 4503599627370496 % 2048 : Nat) : Int) - 1075 + 953).toNat)
        apply decide_eq_decide.2
        unfold vp sg
        simp only
        generalize (b % 4503599627370496 + 4503599627370496) * 2 ^ (((b / 4503599627370496 % 2048 : Nat) : Int) - 1075 + 953).toNat = g at *
        by_cases hd : 9223372036854775808 ≤ b
        · rw [decide_eq_true (show b / 9223372036854775808 = 1 by omega), if_pos rfl]; omega
        · rw [decide_eq_false (show ¬ b / 9223372036854775808 = 1 by omega), if_neg Bool.false_ne_true]; omega
      rw [hs]
      simp only [Bool.false_eq_true, if_false, Int.add_zero, Int.toNat_natCast]
      exact (wd_self hb).symm

/-- The two ends of a number, as floats. -/
def Ends (x : Bool × Nat × Int) (d u : Nat) : Prop := FR d (posV x (-1)) ∧ FR u (posV x 1)

theorem ends_at {e z : Int} {x : Bool × Nat × Int} {d u : Nat} (h : EndsAt e z d u) (hx : MeansT e z x) : Ends x d u := by
  unfold Ends
  rw [posV_means hx (-1) (Or.inl rfl), posV_means hx 1 (Or.inr rfl)]
  exact h

theorem sum_plain {x y : Nat} {p q : Bool × Nat × Int} (hx : x < 18446744073709551616) (hy : y < 18446744073709551616) (hxz : x ≠ 9223372036854775808) (px : plainN x = some p) (py : plainN y = some q) :
    ∃ d u, Ends (sumN p.1 p.2.1 p.2.2 q.1 q.2.1 q.2.2) d u ∧ Gives 89 #[.float .f64 x, .float .f64 y] d u := by
  have np := plain_num px
  have nq := plain_num py
  have ms := sumN_means np.means nq.means
  by_cases hyz : y = 9223372036854775808
  · have hq0 : vp q = 0 := by
      subst hyz
      have : plainN 9223372036854775808 = some (false, 0, 0) := rfl
      rw [this] at py
      cases py; exact vp_zero
    obtain ⟨d, u, hE, hG⟩ := sumG_minus (e := -953) (a := vp p) (M := plM) (by omega) (by have := plM_eq; have := plN_eq; omega) np.lt np.rep
    rw [hq0, Int.add_zero] at ms
    rw [plain_fd hx hxz px, hyz]
    exact ⟨d, u, ends_at hE ms, hG⟩
  · obtain ⟨d, u, hE, hG⟩ := sumG_any (e := -953) (a := vp p) (b := vp q) (M := plM) (by omega) (by have := plM_eq; have := plN_eq; omega) np.lt nq.lt np.rep nq.rep (two_sum np.rep nq.rep np.big nq.big)
    rw [plain_fd hx hxz px, plain_fd hy hyz py]
    exact ⟨d, u, ends_at hE ms, hG⟩
end Go.Proofs.YtonhpkigoplmaaaGreatDoor
namespace Go.Proofs.YtonhpkigoplmaaaGreatDoor
open Go.RowKit Go.Extern Ieee

theorem cut_le (s : Bool) (n k : Nat) : Toward.even.cut s n k ≤ n / 2 ^ (min k (n.log2 + 2)) + 1 := by
  unfold Toward.cut
  simp only [Nat.one_shiftLeft]
  have hb : ∀ b : Bool, b.toNat ≤ 1 := by intro b; cases b <;> decide
  exact Nat.add_le_add_left (hb _) _

theorem cut_zero (s : Bool) (n : Nat) : Toward.even.cut s n 0 = n := by
  unfold Toward.cut
  simp [Nat.mod_one]

/-- The nearest float of any number but 0. -/
theorem nearest_any (s : Bool) {n : Nat} (e : Int) (h0 : n ≠ 0) : ∃ R, double.nearest s n e = wd s R ∧ R ≤ 9218868437227405312 ∧
    (-1021 ≤ e + bl n → e + bl n ≤ 1023 → (R : Int) = rung n e + if nup n then 1 else 0) ∧ (e + bl n < -1021 → R ≤ 4503599627370497) ∧ (1023 < e + bl n → 9214364837600034816 ≤ R) := by
  by_cases hm : -1021 ≤ e + bl n ∧ e + bl n ≤ 1023
  · have hr := nearest_rung s h0 hm.1 hm.2
    have rb := rung_bounds e h0
    refine ⟨(rung n e + if nup n then 1 else 0).toNat, hr, ?_, fun _ _ => ?_, fun h => by omega, fun h => by omega⟩
    · split <;> omega
    · split <;> omega
  · have hl := bl_log2 h0
    have hlp : double.leastPlace = -1074 := by decide
    have hfb : double.fractionBits = 52 := rfl
    have hbi : double.binade = 4503599627370496 := by decide
    have hin : double.infRung = 9218868437227405312 := by decide
    have hsw : double.signWeight = 9223372036854775808 := by decide
    have hw : ∀ R, double.word s R = wd s R := by
      intro R
      unfold Format.word wd
      rw [hsw]
      cases s
      · rfl
      · rw [if_pos rfl, if_pos rfl, Nat.add_comm]
    unfold Format.nearest
    rw [if_neg h0]
    simp only [hlp, hfb, hbi, hin]
    rw [hw]
    refine ⟨_, rfl, Nat.min_le_right _ _, fun h1 h2 => absurd ⟨h1, h2⟩ hm, fun h => ?_, fun h => ?_⟩
    · have hlast : max (e + (n.log2 : Int) - ((52 : Nat) : Int)) (-1074) = -1074 := by omega
      rw [hlast]
      refine Nat.le_trans (Nat.min_le_left _ _) ?_
      rw [show ((-1074 : Int) - -1074).toNat = 0 by omega, Nat.zero_mul, Nat.zero_add]
      have hb2 := (bl_bounds (Nat.pos_of_ne_zero h0)).2.1
      by_cases he : -1074 ≤ e
      · rw [show (-1074 - e).toNat = 0 by omega, cut_zero, Nat.shiftLeft_eq]
        have h1 : n * 2 ^ (e - -1074).toNat < 2 ^ bl n * 2 ^ (e - -1074).toNat := Nat.mul_lt_mul_of_pos_right hb2 (Nat.two_pow_pos _)
        rw [← Nat.pow_add] at h1
        have h2 : (2 : Nat) ^ (bl n + (e - -1074).toNat) ≤ 2 ^ 52 := pow_mono (by omega)
        rw [p52] at h2
        omega
      · rw [show (e - -1074).toNat = 0 by omega, Nat.shiftLeft_zero]
        refine Nat.le_trans (cut_le s n _) ?_
        apply Nat.succ_le_succ
        by_cases hk : (-1074 - e).toNat ≤ n.log2 + 2
        · rw [Nat.min_eq_left hk]
          have h1 : n < 2 ^ ((-1074 - e).toNat) * 2 ^ 52 := by
            rw [← Nat.pow_add]
            exact Nat.lt_of_lt_of_le hb2 (pow_mono (by omega))
          have := Nat.div_lt_of_lt_mul h1
          rw [p52] at this
          omega
        · rw [Nat.min_eq_right (by omega)]
          have : n / 2 ^ (n.log2 + 2) = 0 := Nat.div_eq_of_lt (Nat.lt_of_lt_of_le hb2 (pow_mono (by omega)))
          omega
    · have hlast : max (e + (n.log2 : Int) - ((52 : Nat) : Int)) (-1074) = e + bl n - 53 := by omega
      rw [hlast]
      refine Nat.le_min.2 ⟨?_, by omega⟩
      obtain ⟨T, hT⟩ : ∃ T : Nat, e + (bl n : Int) - 53 - -1074 = (T : Int) := ⟨(e + (bl n : Int) - 53 - -1074).toNat, by omega⟩
      rw [hT, Int.toNat_natCast]
      have hT2 : 2045 ≤ T := by omega
      have hk : 4503599627370496 ≤ Toward.even.cut s (n <<< (e - (e + (bl n : Int) - 53)).toNat) (e + (bl n : Int) - 53 - e).toNat := by
        have hm := mf_bounds (Nat.pos_of_ne_zero h0)
        unfold mf at hm
        by_cases hb53 : bl n ≤ 53
        · rw [if_pos hb53] at hm
          rw [show (e + (bl n : Int) - 53 - e).toNat = 0 by omega, cut_zero, Nat.shiftLeft_eq, show (e - (e + (bl n : Int) - 53)).toNat = 53 - bl n by omega]
          exact hm.1
        · rw [if_neg hb53] at hm
          rw [show (e - (e + (bl n : Int) - 53)).toNat = 0 by omega, Nat.shiftLeft_zero, show (e + (bl n : Int) - 53 - e).toNat = bl n - 53 by omega]
          unfold Toward.cut
          simp only [Nat.one_shiftLeft]
          rw [Nat.min_eq_left (by omega)]
          exact Nat.le_trans hm.1 (Nat.le_add_right _ _)
      omega

/-- A float that is too small to be plain, or too great. -/
theorem FR_tiny (s : Bool) {R : Nat} (h0 : 0 < R) (h : R < 553942754166571008) : FR (wd s R) (sgI s 553942754166571007) := by
  have hm : wd s R % 9223372036854775808 = R := by unfold wd; split <;> omega
  refine ⟨wd_lt (by omega), (by intro hc; rw [hc] at hm; omega), by omega, ?_⟩
  rw [posF_cases _ (by omega), hm]
  have : clampR (R : Int) = 553942754166571007 := by unfold clampR; rw [if_pos (by omega)]
  rw [this]
  unfold sgI wd
  cases s
  · rw [if_neg Bool.false_ne_true, if_neg (by omega), if_neg Bool.false_ne_true]
  · rw [if_pos rfl, if_pos (by omega), if_pos rfl]

theorem FR_huge (s : Bool) {R : Nat} (h : 8660422083433463808 < R) (h2 : R ≤ 9218868437227405312) : FR (wd s R) (sgI s 8660422083433463809) := by
  have hm : wd s R % 9223372036854775808 = R := by unfold wd; split <;> omega
  refine ⟨wd_lt (by omega), (by intro hc; rw [hc] at hm; omega), by omega, ?_⟩
  rw [posF_cases _ (by omega), hm]
  have : clampR (R : Int) = 8660422083433463809 := by unfold clampR; rw [if_neg (by omega), if_pos (by omega)]
  rw [this]
  unfold sgI wd
  cases s
  · rw [if_neg Bool.false_ne_true, if_neg (by omega), if_neg Bool.false_ne_true]
  · rw [if_pos rfl, if_pos (by omega), if_pos rfl]

theorem posV_tiny (s : Bool) {n : Nat} {e : Int} (way : Int) (h0 : n ≠ 0) (h : e + bl n ≤ -901) : posV (s, n, e) way = sgI s 553942754166571007 := by
  have rb := rung_bounds e h0
  have eb := endR_bounds s (n := n) e way
  unfold posV
  rw [if_neg h0]
  simp only
  congr 1
  unfold clampR
  rw [if_pos (by omega)]

theorem posV_huge (s : Bool) {n : Nat} {e : Int} (way : Int) (h0 : n ≠ 0) (h : 902 ≤ e + bl n) : posV (s, n, e) way = sgI s 8660422083433463809 := by
  have rb := rung_bounds e h0
  have eb := endR_bounds s (n := n) e way
  unfold posV
  rw [if_neg h0]
  simp only
  congr 1
  unfold clampR
  rw [if_neg (by omega), if_pos (by omega)]

/-- A number that lies strictly between c and c + 1 times a power of two. -/
theorem sticky {c N k : Nat} (hc : 4503599627370496 ≤ c) (h1 : c * 2 ^ k < N) (h2 : N < (c + 1) * 2 ^ k) : bl N = bl c + k ∧ mf N = mf c ∧ inex N = true := by
  have hp := Nat.two_pow_pos k
  have hc0 : 0 < c := by omega
  obtain ⟨b1, b2, b3⟩ := bl_bounds hc0
  have hbc : 53 ≤ bl c := by
    have := bl_gt (n := c) (k := 52) (by rw [p52]; exact hc)
    omega
  have hbN : bl N = bl c + k := by
    refine bl_of ?_ ?_ (by omega)
    · rw [show bl c + k - 1 = (bl c - 1) + k by omega, Nat.pow_add]
      exact Nat.le_of_lt (Nat.lt_of_le_of_lt (Nat.mul_le_mul_right _ b1) h1)
    · rw [Nat.pow_add]
      exact Nat.lt_of_lt_of_le h2 (Nat.mul_le_mul_right _ (by omega))
  have hk0 : k ≠ 0 := by
    rintro rfl
    rw [Nat.pow_zero] at h1 h2
    omega
  have hdiv : N / 2 ^ k = c := by
    apply Nat.div_eq_of_lt_le
    · exact Nat.le_of_lt h1
    · exact h2
  refine ⟨hbN, ?_, ?_⟩
  · unfold mf
    rw [hbN, if_neg (by omega), show bl c + k - 53 = k + (bl c - 53) by omega, Nat.pow_add, ← Nat.div_div_eq_div_mul, hdiv]
    by_cases h53 : bl c ≤ 53
    · rw [if_pos h53, show bl c - 53 = 0 by omega, show 53 - bl c = 0 by omega, Nat.pow_zero, Nat.div_one, Nat.mul_one]
    · rw [if_neg h53]
  · unfold inex
    rw [decide_eq_true_eq, hbN]
    refine ⟨by omega, ?_⟩
    intro hz
    have hd : 2 ^ k ∣ N := Nat.dvd_trans (Nat.pow_dvd_pow 2 (by omega)) (Nat.dvd_of_mod_eq_zero hz)
    obtain ⟨m, rfl⟩ := hd
    rw [Nat.mul_comm c] at h1
    rw [Nat.mul_comm (c + 1)] at h2
    have a1 := Nat.lt_of_mul_lt_mul_left h1
    have a2 := Nat.lt_of_mul_lt_mul_left h2
    omega

theorem sticky_end (s : Bool) {c N k : Nat} (hc : 4503599627370496 ≤ c) (h1 : c * 2 ^ k < N) (h2 : N < (c + 1) * 2 ^ k) (e way : Int) : endR s N e way = rung c (e + k) + if offS s way then 1 else 0 := by
  obtain ⟨a1, a2, a3⟩ := sticky hc h1 h2
  unfold endR rung
  rw [a1, a2, a3, Bool.and_true]
  congr 3
  omega

theorem means_of {e z : Int} {s : Bool} {m : Nat} {p : Int} (c0 : Int) (h1 : c0 ≤ p) (h2 : c0 ≤ e) (h : sg s (m * 2 ^ (p - c0).toNat) = z * ((2 ^ (e - c0).toNat : Nat) : Int)) : Means e z s m p := by
  intro c hc1 hc2
  have hd : sg s (m * 2 ^ (p - min c c0).toNat) = z * ((2 ^ (e - min c c0).toNat : Nat) : Int) := by
    have this : sg s (m * 2 ^ (p - c0).toNat) * ((2 ^ (c0 - min c c0).toNat : Nat) : Int) = z * ((2 ^ (e - c0).toNat : Nat) : Int) * ((2 ^ (c0 - min c c0).toNat : Nat) : Int) := by rw [h]
    rw [sg_mul, Nat.mul_assoc, ← Nat.pow_add, Int.mul_assoc, ← Int.natCast_mul, ← Nat.pow_add] at this
    rwa [show (p - c0).toNat + (c0 - min c c0).toNat = (p - min c c0).toNat by omega, show (e - c0).toNat + (c0 - min c c0).toNat = (e - min c c0).toNat by omega] at this
  have hp : ((2 ^ (c - min c c0).toNat : Nat) : Int) ≠ 0 := by
    have := Nat.two_pow_pos (c - min c c0).toNat
    omega
  apply Int.eq_of_mul_eq_mul_right hp
  rw [sg_mul, Nat.mul_assoc, ← Nat.pow_add, Int.mul_assoc, ← Int.natCast_mul, ← Nat.pow_add]
  rwa [show (p - c).toNat + (c - min c c0).toNat = (p - min c c0).toNat by omega, show (e - c).toNat + (c - min c c0).toNat = (e - min c c0).toNat by omega]

theorem sg_mul2 (s t : Bool) (m n : Nat) : sg (s ^^ t) (m * n) = sg s m * sg t n := by
  unfold sg
  cases s <;> cases t <;> simp [Int.natCast_mul, Int.neg_mul, Int.mul_neg]

theorem mul4 (a b c d : Int) : a * b * (c * d) = a * c * (b * d) := by
  rw [Int.mul_assoc, Int.mul_assoc, Int.mul_left_comm b]

theorem mul_means {e f a b : Int} {s t : Bool} {m n : Nat} {p q : Int} (hx : Means e a s m p) (hy : Means f b t n q) : Means (e + f) (a * b) (s ^^ t) (m * n) (p + q) := by
  have ha := hx (min p e) (by omega) (by omega)
  have hb := hy (min q f) (by omega) (by omega)
  refine means_of (min p e + min q f) (by omega) (by omega) ?_
  rw [show (p + q - (min p e + min q f)).toNat = (p - min p e).toNat + (q - min q f).toNat by omega, show (e + f - (min p e + min q f)).toNat = (e - min p e).toNat + (f - min q f).toNat by omega]
  rw [Nat.pow_add, Nat.pow_add, Int.natCast_mul, mul4, ← ha, ← hb, ← sg_mul2]
  congr 1
  rw [Nat.mul_assoc, Nat.mul_assoc, Nat.mul_left_comm n]

/-- The same number at a lower power of two. -/
theorem means_low {e z : Int} {s : Bool} {m : Nat} {p : Int} (h : Means e z s m p) (k : Nat) : Means (e - k) (z * ((2 ^ k : Nat) : Int)) s m p := by
  refine means_of (min p (e - k)) (by omega) (by omega) ?_
  have := h (min p (e - k)) (by omega) (by omega)
  rw [this, Int.mul_assoc, ← Int.natCast_mul, ← Nat.pow_add]
  congr 3
  omega
end Go.Proofs.YtonhpkigoplmaaaGreatDoor
namespace Go.Proofs.YtonhpkigoplmaaaGreatDoor
open Go.RowKit Go.Extern Ieee
attribute [local go_sem] run_store_float

/-- The float next to an infinity, towards the other one. -/
theorem next_inf_down (w : World) : Calls Tryz.prog 172 #[.float .f64 9218868437227405312, .float .f64 18442240474082181120] w fun e w' => e = .returned (.float .f64 9218868437227405311) ∧ w' = w := by
  have h89 := @run_callFunc_extern Tryz.prog 99 _ MathFloatBits.float64bits Tryz.func99 (by kernel_rfl) (by kernel_rfl) (by kernel_rfl) (by kernel_rfl)
  have h93 := @run_callFunc_extern Tryz.prog 113 _ MathFloatBits.float64frombits Tryz.func113 (by kernel_rfl) (by kernel_rfl) (by kernel_rfl) (by kernel_rfl)
  have cb : ∀ w, (MathFloatBits.float64bits #[.float .f64 9218868437227405312]).run Tryz.prog w = .ok (.int .u64 9218868437227405312) w := fun w => c_bits 9218868437227405312 w
  have cd : ∀ w, (MathFloatBits.float64frombits #[.int .u64 9218868437227405311]).run Tryz.prog w = .ok (.float .f64 9218868437227405311) w := fun w => c_from 9218868437227405311 w
  have e1 : FloatKind.f64.format.order 9218868437227405312 18442240474082181120 = some .gt := rfl
  have e2 : FloatKind.f64.format.order 18442240474082181120 9218868437227405312 = some .lt := rfl
  have e3 : FloatKind.f64.format.order 9218868437227405312 0 = some .gt := rfl
  go_enter Tryz.func172, Tryz.ntmps172
  go_wp2_with fail
  refine (isNaN_any _ w ord_inf_self).mono ?_
  rintro e w' ⟨rfl, rfl⟩
  go_wp2_with fail
  refine (isNaN_any _ _ ord_ninf_self).mono ?_
  rintro e w' ⟨rfl, rfl⟩
  go_wp2
  go_ret
  exact ⟨rfl, rfl⟩

theorem next_inf_up (w : World) : Calls Tryz.prog 172 #[.float .f64 18442240474082181120, .float .f64 9218868437227405312] w fun e w' => e = .returned (.float .f64 18442240474082181119) ∧ w' = w := by
  have h89 := @run_callFunc_extern Tryz.prog 99 _ MathFloatBits.float64bits Tryz.func99 (by kernel_rfl) (by kernel_rfl) (by kernel_rfl) (by kernel_rfl)
  have h93 := @run_callFunc_extern Tryz.prog 113 _ MathFloatBits.float64frombits Tryz.func113 (by kernel_rfl) (by kernel_rfl) (by kernel_rfl) (by kernel_rfl)
  have cb : ∀ w, (MathFloatBits.float64bits #[.float .f64 18442240474082181120]).run Tryz.prog w = .ok (.int .u64 18442240474082181120) w := fun w => c_bits 18442240474082181120 w
  have cd : ∀ w, (MathFloatBits.float64frombits #[.int .u64 18442240474082181119]).run Tryz.prog w = .ok (.float .f64 18442240474082181119) w := fun w => c_from 18442240474082181119 w
  have e1 : FloatKind.f64.format.order 9218868437227405312 18442240474082181120 = some .gt := rfl
  have e2 : FloatKind.f64.format.order 18442240474082181120 9218868437227405312 = some .lt := rfl
  have e3 : FloatKind.f64.format.order 18442240474082181120 0 = some .lt := rfl
  go_enter Tryz.func172, Tryz.ntmps172
  go_wp2_with fail
  refine (isNaN_any _ w ord_ninf_self).mono ?_
  rintro e w' ⟨rfl, rfl⟩
  go_wp2_with fail
  refine (isNaN_any _ _ ord_inf_self).mono ?_
  rintro e w' ⟨rfl, rfl⟩
  go_wp2
  go_ret
  exact ⟨rfl, rfl⟩

theorem aroundF_infd (q : Nat) (w : World) (hq : FloatKind.f64.format.order q 0 = some .lt) :
    Calls Tryz.prog 141 #[.float .f64 9218868437227405312, .float .f64 q] w fun e w' => e = .returned (.agg #[.float .f64 9218868437227405311, .float .f64 9218868437227405312]) ∧ Below w.heap.size w w' := by
  go_enter Tryz.func141, Tryz.ntmps141
  go_wp2_with fail
  refine (inf_down _).mono ?_
  rintro e w' ⟨rfl, rfl⟩
  go_wp2_with fail
  refine Calls.mono (next_inf_down _) ?_
  rintro e w' ⟨rfl, rfl⟩
  go_wp2
  refine bodyPost_ret (v := .agg #[.float .f64 9218868437227405311, .float .f64 9218868437227405312]) (by simp [results, Tryz.results141, go_sem]) rfl ?_
  exact ⟨rfl, by (repeat refine Below.setCell ?_ (by simp) _); exact (Below.refl _ _).alloc (Nat.le_refl _) _⟩

theorem aroundF_infu (q : Nat) (w : World) (hq : FloatKind.f64.format.order q 0 = some .gt) :
    Calls Tryz.prog 141 #[.float .f64 18442240474082181120, .float .f64 q] w fun e w' => e = .returned (.agg #[.float .f64 18442240474082181120, .float .f64 18442240474082181119]) ∧ Below w.heap.size w w' := by
  go_enter Tryz.func141, Tryz.ntmps141
  go_wp2_with fail
  refine (inf_up _).mono ?_
  rintro e w' ⟨rfl, rfl⟩
  go_wp2_with fail
  refine Calls.mono (next_inf_up _) ?_
  rintro e w' ⟨rfl, rfl⟩
  go_wp2
  refine bodyPost_ret (v := .agg #[.float .f64 18442240474082181120, .float .f64 18442240474082181119]) (by simp [results, Tryz.results141, go_sem]) rfl ?_
  exact ⟨rfl, by (repeat refine Below.setCell ?_ (by simp) _); exact (Below.refl _ _).alloc (Nat.le_refl _) _⟩

/-- Whatever the remainder: the ends lie beside the float. -/
theorem around_near (s : Bool) (R q : Nat) (o : Ordering) (h0 : 0 < R) (h : R < 9218868437227405312) (hq : FloatKind.f64.format.order q 0 = some o) :
    ∃ D U, R - 1 ≤ D ∧ D ≤ R + 1 ∧ R - 1 ≤ U ∧ U ≤ R + 1 ∧ Gives 141 #[.float .f64 (wd s R), .float .f64 q] (wd s D) (wd s U) := by
  cases o
  · exact ⟨_, _, by split <;> omega, by split <;> omega, by omega, by omega, fun w => aroundF_neg s R q w hq h h0⟩
  · exact ⟨R, R, by omega, by omega, by omega, by omega, fun w => aroundF_eq (wd s R) q w hq⟩
  · exact ⟨_, _, by omega, by omega, by split <;> omega, by split <;> omega, fun w => aroundF_pos s R q w hq h h0⟩

theorem around_tiny (s : Bool) (R q : Nat) (o : Ordering) (h0 : 1 < R) (h : R < 553942754166571007) (hq : FloatKind.f64.format.order q 0 = some o) :
    ∃ d u, FR d (sgI s 553942754166571007) ∧ FR u (sgI s 553942754166571007) ∧ Gives 141 #[.float .f64 (wd s R), .float .f64 q] d u := by
  obtain ⟨D, U, a1, a2, a3, a4, hG⟩ := around_near s R q o (by omega) (by omega) hq
  exact ⟨_, _, FR_tiny s (by omega) (by omega), FR_tiny s (by omega) (by omega), hG⟩

theorem around_huge (s : Bool) (R q : Nat) (o : Ordering) (h0 : 8660422083433463809 < R) (h : R ≤ 9218868437227405312) (hq : FloatKind.f64.format.order q 0 = some o) (hi : R = 9218868437227405312 → o = if s then .gt else .lt) :
    ∃ d u, FR d (sgI s 8660422083433463809) ∧ FR u (sgI s 8660422083433463809) ∧ Gives 141 #[.float .f64 (wd s R), .float .f64 q] d u := by
  by_cases hR : R = 9218868437227405312
  · have ho := hi hR
    subst hR
    cases s
    · rw [if_neg Bool.false_ne_true] at ho
      subst ho
      exact ⟨_, _, FR_huge false (R := 9218868437227405311) (by omega) (by omega), FR_huge false (R := 9218868437227405312) (by omega) (by omega), fun w => aroundF_infd q w hq⟩
    · rw [if_pos rfl] at ho
      subst ho
      exact ⟨_, _, FR_huge true (R := 9218868437227405312) (by omega) (by omega), FR_huge true (R := 9218868437227405311) (by omega) (by omega), fun w => aroundF_infu q w hq⟩
  · obtain ⟨D, U, a1, a2, a3, a4, hG⟩ := around_near s R q o (by omega) (by omega) hq
    exact ⟨_, _, FR_huge s (by omega) (by omega), FR_huge s (by omega) (by omega), hG⟩

/-- No written number is a NaN. -/
theorem order_write (s : Bool) (n : Nat) (e : Int) : ∃ o, FloatKind.f64.format.order (double.nearest s n e) 0 = some o := by
  have hz : (0 : Nat) = wd false 0 := rfl
  show ∃ o, double.order _ _ = some o
  by_cases h0 : n = 0
  · subst h0
    have : double.nearest s 0 e = wd s 0 := by cases s <;> rfl
    rw [this, hz]
    exact ⟨_, order_wd (by omega) (by omega)⟩
  · obtain ⟨R, h1, h2, _⟩ := nearest_any s e h0
    rw [h1, hz]
    exact ⟨_, order_wd h2 (by omega)⟩
end Go.Proofs.YtonhpkigoplmaaaGreatDoor
