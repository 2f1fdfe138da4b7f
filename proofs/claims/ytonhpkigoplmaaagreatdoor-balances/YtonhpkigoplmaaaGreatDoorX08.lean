/-
  NrM, NrA, ProdF, ProdM, QuoF, MarkM.
-/
import Derived.Test.YtonhpkigoplmaaaGreatDoorX07
namespace Go.Proofs.YtonhpkigoplmaaaGreatDoor
open Go.RowKit Go.Extern Ieee

theorem cut_le (s : Bool) (n k : Nat) : Toward.even.cut s n k ≤ n / 2 ^ (min k (n.log2 + 2)) + 1 := by
  unfold Toward.cut
  simp only [Nat.one_shiftLeft]
  have hb : ∀ b : Bool, b.toNat ≤ 1 := by intro b; cases b <;> decide
  exact Nat.add_le_add_left (hb _) _

theorem cut_zero (s : Bool) (n : Nat) : Toward.even.cut s n 0 = n := by
  unfold Toward.cut
  simp [Nat.mod_one]

/-- The nearest float of any number but 0. -/
theorem nearest_any (s : Bool) {n : Nat} (e : Int) (h0 : n ≠ 0) : ∃ R, double.nearest s n e = wd s R ∧ R ≤ 9218868437227405312 ∧
    (-1021 ≤ e + bl n → e + bl n ≤ 1023 → (R : Int) = rung n e + if nup n then 1 else 0) ∧ (e + bl n < -1021 → R ≤ 4503599627370497) ∧ (1023 < e + bl n → 9214364837600034816 ≤ R) := by
  by_cases hm : -1021 ≤ e + bl n ∧ e + bl n ≤ 1023
  · have hr := nearest_rung s h0 hm.1 hm.2
    have rb := rung_bounds e h0
    refine ⟨(rung n e + if nup n then 1 else 0).toNat, hr, ?_, fun _ _ => ?_, fun h => by omega, fun h => by omega⟩
    · split <;> omega
    · split <;> omega
  · have hl := bl_log2 h0
    have hlp : double.leastPlace = -1074 := by decide
    have hfb : double.fractionBits = 52 := rfl
    have hbi : double.binade = 4503599627370496 := by decide
    have hin : double.infRung = 9218868437227405312 := by decide
    have hsw : double.signWeight = 9223372036854775808 := by decide
    have hw : ∀ R, double.word s R = wd s R := by
      intro R
      unfold Format.word wd
      rw [hsw]
      cases s
      · rfl
      · rw [if_pos rfl, if_pos rfl, Nat.add_comm]
    unfold Format.nearest
    rw [if_neg h0]
    simp only [hlp, hfb, hbi, hin]
    rw [hw]
    refine ⟨_, rfl, Nat.min_le_right _ _, fun h1 h2 => absurd ⟨h1, h2⟩ hm, fun h => ?_, fun h => ?_⟩
    · have hlast : max (e + (n.log2 : Int) - ((52 : Nat) : Int)) (-1074) = -1074 := by omega
      rw [hlast]
      refine Nat.le_trans (Nat.min_le_left _ _) ?_
      rw [show ((-1074 : Int) - -1074).toNat = 0 by omega, Nat.zero_mul, Nat.zero_add]
      have hb2 := (bl_bounds (Nat.pos_of_ne_zero h0)).2.1
      by_cases he : -1074 ≤ e
      · rw [show (-1074 - e).toNat = 0 by omega, cut_zero, Nat.shiftLeft_eq]
        have h1 : n * 2 ^ (e - -1074).toNat < 2 ^ bl n * 2 ^ (e - -1074).toNat := Nat.mul_lt_mul_of_pos_right hb2 (Nat.two_pow_pos _)
        rw [← Nat.pow_add] at h1
        have h2 : (2 : Nat) ^ (bl n + (e - -1074).toNat) ≤ 2 ^ 52 := pow_mono (by omega)
        rw [p52] at h2
        omega
      · rw [show (e - -1074).toNat = 0 by omega, Nat.shiftLeft_zero]
        refine Nat.le_trans (cut_le s n _) ?_
        apply Nat.succ_le_succ
        by_cases hk : (-1074 - e).toNat ≤ n.log2 + 2
        · rw [Nat.min_eq_left hk]
          have h1 : n < 2 ^ ((-1074 - e).toNat) * 2 ^ 52 := by
            rw [← Nat.pow_add]
            exact Nat.lt_of_lt_of_le hb2 (pow_mono (by omega))
          have := Nat.div_lt_of_lt_mul h1
          rw [p52] at this
          omega
        · rw [Nat.min_eq_right (by omega)]
          have : n / 2 ^ (n.log2 + 2) = 0 := Nat.div_eq_of_lt (Nat.lt_of_lt_of_le hb2 (pow_mono (by omega)))
          omega
    · have hlast : max (e + (n.log2 : Int) - ((52 : Nat) : Int)) (-1074) = e + bl n - 53 := by omega
      rw [hlast]
      refine Nat.le_min.2 ⟨?_, by omega⟩
      obtain ⟨T, hT⟩ : ∃ T : Nat, e + (bl n : Int) - 53 - -1074 = (T : Int) := ⟨(e + (bl n : Int) - 53 - -1074).toNat, by omega⟩
      rw [hT, Int.toNat_natCast]
      have hT2 : 2045 ≤ T := by omega
      have hk : 4503599627370496 ≤ Toward.even.cut s (n <<< (e - (e + (bl n : Int) - 53)).toNat) (e + (bl n : Int) - 53 - e).toNat := by
        have hm := mf_bounds (Nat.pos_of_ne_zero h0)
        unfold mf at hm
        by_cases hb53 : bl n ≤ 53
        · rw [if_pos hb53] at hm
          rw [show (e + (bl n : Int) - 53 - e).toNat = 0 by omega, cut_zero, Nat.shiftLeft_eq, show (e - (e + (bl n : Int) - 53)).toNat = 53 - bl n by omega]
          exact hm.1
        · rw [if_neg hb53] at hm
          rw [show (e - (e + (bl n : Int) - 53)).toNat = 0 by omega, Nat.shiftLeft_zero, show (e + (bl n : Int) - 53 - e).toNat = bl n - 53 by omega]
          unfold Toward.cut
          simp only [Nat.one_shiftLeft]
          rw [Nat.min_eq_left (by omega)]
          exact Nat.le_trans hm.1 (Nat.le_add_right _ _)
      omega

/-- A float that is too small to be plain, or too great. -/
theorem FR_tiny (s : Bool) {R : Nat} (h0 : 0 < R) (h : R < 553942754166571008) : FR (wd s R) (sgI s 553942754166571007) := by
  have hm : wd s R % 9223372036854775808 = R := by unfold wd; split <;> omega
  refine ⟨wd_lt (by omega), (by intro hc; rw [hc] at hm; omega), by omega, ?_⟩
  rw [posF_cases _ (by omega), hm]
  have : clampR (R : Int) = 553942754166571007 := by unfold clampR; rw [if_pos (by omega)]
  rw [this]
  unfold sgI wd
  cases s
  · rw [if_neg Bool.false_ne_true, if_neg (by omega), if_neg Bool.false_ne_true]
  · rw [if_pos rfl, if_pos (by omega), if_pos rfl]

theorem FR_huge (s : Bool) {R : Nat} (h : 8660422083433463808 < R) (h2 : R ≤ 9218868437227405312) : FR (wd s R) (sgI s 8660422083433463809) := by
  have hm : wd s R % 9223372036854775808 = R := by unfold wd; split <;> omega
  refine ⟨wd_lt (by omega), (by intro hc; rw [hc] at hm; omega), by omega, ?_⟩
  rw [posF_cases _ (by omega), hm]
  have : clampR (R : Int) = 8660422083433463809 := by unfold clampR; rw [if_neg (by omega), if_pos (by omega)]
  rw [this]
  unfold sgI wd
  cases s
  · rw [if_neg Bool.false_ne_true, if_neg (by omega), if_neg Bool.false_ne_true]
  · rw [if_pos rfl, if_pos (by omega), if_pos rfl]

theorem posV_tiny (s : Bool) {n : Nat} {e : Int} (way : Int) (h0 : n ≠ 0) (h : e + bl n ≤ -901) : posV (s, n, e) way = sgI s 553942754166571007 := by
  have rb := rung_bounds e h0
  have eb := endR_bounds s (n := n) e way
  unfold posV
  rw [if_neg h0]
  simp only
  congr 1
  unfold clampR
  rw [if_pos (by omega)]

theorem posV_huge (s : Bool) {n : Nat} {e : Int} (way : Int) (h0 : n ≠ 0) (h : 902 ≤ e + bl n) : posV (s, n, e) way = sgI s 8660422083433463809 := by
  have rb := rung_bounds e h0
  have eb := endR_bounds s (n := n) e way
  unfold posV
  rw [if_neg h0]
  simp only
  congr 1
  unfold clampR
  rw [if_neg (by omega), if_pos (by omega)]

/-- A number that lies strictly between c and c + 1 times a power of two. -/
theorem sticky {c N k : Nat} (hc : 4503599627370496 ≤ c) (h1 : c * 2 ^ k < N) (h2 : N < (c + 1) * 2 ^ k) : bl N = bl c + k ∧ mf N = mf c ∧ inex N = true := by
  have hp := Nat.two_pow_pos k
  have hc0 : 0 < c := by omega
  obtain ⟨b1, b2, b3⟩ := bl_bounds hc0
  have hbc : 53 ≤ bl c := by
    have := bl_gt (n := c) (k := 52) (by rw [p52]; exact hc)
    omega
  have hbN : bl N = bl c + k := by
    refine bl_of ?_ ?_ (by omega)
    · rw [show bl c + k - 1 = (bl c - 1) + k by omega, Nat.pow_add]
      exact Nat.le_of_lt (Nat.lt_of_le_of_lt (Nat.mul_le_mul_right _ b1) h1)
    · rw [Nat.pow_add]
      exact Nat.lt_of_lt_of_le h2 (Nat.mul_le_mul_right _ (by omega))
  have hk0 : k ≠ 0 := by
    rintro rfl
    rw [Nat.pow_zero] at h1 h2
    omega
  have hdiv : N / 2 ^ k = c := by
    apply Nat.div_eq_of_lt_le
    · exact Nat.le_of_lt h1
    · exact h2
  refine ⟨hbN, ?_, ?_⟩
  · unfold mf
    rw [hbN, if_neg (by omega), show bl c + k - 53 = k + (bl c - 53) by omega, Nat.pow_add, ← Nat.div_div_eq_div_mul, hdiv]
    by_cases h53 : bl c ≤ 53
    · rw [if_pos h53, show bl c - 53 = 0 by omega, show 53 - bl c = 0 by omega, Nat.pow_zero, Nat.div_one, Nat.mul_one]
    · rw [if_neg h53]
  · unfold inex
    rw [decide_eq_true_eq, hbN]
    refine ⟨by omega, ?_⟩
    intro hz
    have hd : 2 ^ k ∣ N := Nat.dvd_trans (Nat.pow_dvd_pow 2 (by omega)) (Nat.dvd_of_mod_eq_zero hz)
    obtain ⟨m, rfl⟩ := hd
    rw [Nat.mul_comm c] at h1
    rw [Nat.mul_comm (c + 1)] at h2
    have a1 := Nat.lt_of_mul_lt_mul_left h1
    have a2 := Nat.lt_of_mul_lt_mul_left h2
    omega

theorem sticky_end (s : Bool) {c N k : Nat} (hc : 4503599627370496 ≤ c) (h1 : c * 2 ^ k < N) (h2 : N < (c + 1) * 2 ^ k) (e way : Int) : endR s N e way = rung c (e + k) + if offS s way then 1 else 0 := by
  obtain ⟨a1, a2, a3⟩ := sticky hc h1 h2
  unfold endR rung
  rw [a1, a2, a3, Bool.and_true]
  congr 3
  omega

theorem means_of {e z : Int} {s : Bool} {m : Nat} {p : Int} (c0 : Int) (h1 : c0 ≤ p) (h2 : c0 ≤ e) (h : sg s (m * 2 ^ (p - c0).toNat) = z * ((2 ^ (e - c0).toNat : Nat) : Int)) : Means e z s m p := by
  intro c hc1 hc2
  have hd : sg s (m * 2 ^ (p - min c c0).toNat) = z * ((2 ^ (e - min c c0).toNat : Nat) : Int) := by
    have this : sg s (m * 2 ^ (p - c0).toNat) * ((2 ^ (c0 - min c c0).toNat : Nat) : Int) = z * ((2 ^ (e - c0).toNat : Nat) : Int) * ((2 ^ (c0 - min c c0).toNat : Nat) : Int) := by rw [h]
    rw [sg_mul, Nat.mul_assoc, ← Nat.pow_add, Int.mul_assoc, ← Int.natCast_mul, ← Nat.pow_add] at this
    rwa [show (p - c0).toNat + (c0 - min c c0).toNat = (p - min c c0).toNat by omega, show (e - c0).toNat + (c0 - min c c0).toNat = (e - min c c0).toNat by omega] at this
  have hp : ((2 ^ (c - min c c0).toNat : Nat) : Int) ≠ 0 := by
    have := Nat.two_pow_pos (c - min c c0).toNat
    omega
  apply Int.eq_of_mul_eq_mul_right hp
  rw [sg_mul, Nat.mul_assoc, ← Nat.pow_add, Int.mul_assoc, ← Int.natCast_mul, ← Nat.pow_add]
  rwa [show (p - c).toNat + (c - min c c0).toNat = (p - min c c0).toNat by omega, show (e - c).toNat + (c - min c c0).toNat = (e - min c c0).toNat by omega]

theorem sg_mul2 (s t : Bool) (m n : Nat) : sg (s ^^ t) (m * n) = sg s m * sg t n := by
  unfold sg
  cases s <;> cases t <;> simp [Int.natCast_mul, Int.neg_mul, Int.mul_neg]

theorem mul4 (a b c d : Int) : a * b * (c * d) = a * c * (b * d) := by
  rw [Int.mul_assoc, Int.mul_assoc, Int.mul_left_comm b]

theorem mul_means {e f a b : Int} {s t : Bool} {m n : Nat} {p q : Int} (hx : Means e a s m p) (hy : Means f b t n q) : Means (e + f) (a * b) (s ^^ t) (m * n) (p + q) := by
  have ha := hx (min p e) (by omega) (by omega)
  have hb := hy (min q f) (by omega) (by omega)
  refine means_of (min p e + min q f) (by omega) (by omega) ?_
  rw [show (p + q - (min p e + min q f)).toNat = (p - min p e).toNat + (q - min q f).toNat by omega, show (e + f - (min p e + min q f)).toNat = (e - min p e).toNat + (f - min q f).toNat by omega]
  rw [Nat.pow_add, Nat.pow_add, Int.natCast_mul, mul4, ← ha, ← hb, ← sg_mul2]
  congr 1
  rw [Nat.mul_assoc, Nat.mul_assoc, Nat.mul_left_comm n]

/-- The same number at a lower power of two. -/
theorem means_low {e z : Int} {s : Bool} {m : Nat} {p : Int} (h : Means e z s m p) (k : Nat) : Means (e - k) (z * ((2 ^ k : Nat) : Int)) s m p := by
  refine means_of (min p (e - k)) (by omega) (by omega) ?_
  have := h (min p (e - k)) (by omega) (by omega)
  rw [this, Int.mul_assoc, ← Int.natCast_mul, ← Nat.pow_add]
  congr 3
  omega
end Go.Proofs.YtonhpkigoplmaaaGreatDoor
namespace Go.Proofs.YtonhpkigoplmaaaGreatDoor
open Go.RowKit Go.Extern Ieee
attribute [local go_sem] run_store_float

/-- The float next to an infinity, towards the other one. -/
theorem next_inf_down (w : World) : Calls Tryz.prog 172 #[.float .f64 9218868437227405312, .float .f64 18442240474082181120] w fun e w' => e = .returned (.float .f64 9218868437227405311) ∧ w' = w := by
  have h89 := @run_callFunc_extern Tryz.prog 99 _ MathFloatBits.float64bits Tryz.func99 (by kernel_rfl) (by kernel_rfl) (by kernel_rfl) (by kernel_rfl)
  have h93 := @run_callFunc_extern Tryz.prog 113 _ MathFloatBits.float64frombits Tryz.func113 (by kernel_rfl) (by kernel_rfl) (by kernel_rfl) (by kernel_rfl)
  have cb : ∀ w, (MathFloatBits.float64bits #[.float .f64 9218868437227405312]).run Tryz.prog w = .ok (.int .u64 9218868437227405312) w := fun w => c_bits 9218868437227405312 w
  have cd : ∀ w, (MathFloatBits.float64frombits #[.int .u64 9218868437227405311]).run Tryz.prog w = .ok (.float .f64 9218868437227405311) w := fun w => c_from 9218868437227405311 w
  have e1 : FloatKind.f64.format.order 9218868437227405312 18442240474082181120 = some .gt := rfl
  have e2 : FloatKind.f64.format.order 18442240474082181120 9218868437227405312 = some .lt := rfl
  have e3 : FloatKind.f64.format.order 9218868437227405312 0 = some .gt := rfl
  go_enter Tryz.func172, Tryz.ntmps172
  go_wp2_with fail
  refine (isNaN_any _ w ord_inf_self).mono ?_
  rintro e w' ⟨rfl, rfl⟩
  go_wp2_with fail
  refine (isNaN_any _ _ ord_ninf_self).mono ?_
  rintro e w' ⟨rfl, rfl⟩
  go_wp2
  go_ret
  exact ⟨rfl, rfl⟩

theorem next_inf_up (w : World) : Calls Tryz.prog 172 #[.float .f64 18442240474082181120, .float .f64 9218868437227405312] w fun e w' => e = .returned (.float .f64 18442240474082181119) ∧ w' = w := by
  have h89 := @run_callFunc_extern Tryz.prog 99 _ MathFloatBits.float64bits Tryz.func99 (by kernel_rfl) (by kernel_rfl) (by kernel_rfl) (by kernel_rfl)
  have h93 := @run_callFunc_extern Tryz.prog 113 _ MathFloatBits.float64frombits Tryz.func113 (by kernel_rfl) (by kernel_rfl) (by kernel_rfl) (by kernel_rfl)
  have cb : ∀ w, (MathFloatBits.float64bits #[.float .f64 18442240474082181120]).run Tryz.prog w = .ok (.int .u64 18442240474082181120) w := fun w => c_bits 18442240474082181120 w
  have cd : ∀ w, (MathFloatBits.float64frombits #[.int .u64 18442240474082181119]).run Tryz.prog w = .ok (.float .f64 18442240474082181119) w := fun w => c_from 18442240474082181119 w
  have e1 : FloatKind.f64.format.order 9218868437227405312 18442240474082181120 = some .gt := rfl
  have e2 : FloatKind.f64.format.order 18442240474082181120 9218868437227405312 = some .lt := rfl
  have e3 : FloatKind.f64.format.order 18442240474082181120 0 = some .lt := rfl
  go_enter Tryz.func172, Tryz.ntmps172
  go_wp2_with fail
  refine (isNaN_any _ w ord_ninf_self).mono ?_
  rintro e w' ⟨rfl, rfl⟩
  go_wp2_with fail
  refine (isNaN_any _ _ ord_inf_self).mono ?_
  rintro e w' ⟨rfl, rfl⟩
  go_wp2
  go_ret
  exact ⟨rfl, rfl⟩

theorem aroundF_infd (q : Nat) (w : World) (hq : FloatKind.f64.format.order q 0 = some .lt) :
    Calls Tryz.prog 141 #[.float .f64 9218868437227405312, .float .f64 q] w fun e w' => e = .returned (.agg #[.float .f64 9218868437227405311, .float .f64 9218868437227405312]) ∧ Below w.heap.size w w' := by
  go_enter Tryz.func141, Tryz.ntmps141
  go_wp2_with fail
  refine (inf_down _).mono ?_
  rintro e w' ⟨rfl, rfl⟩
  go_wp2_with fail
  refine Calls.mono (next_inf_down _) ?_
  rintro e w' ⟨rfl, rfl⟩
  go_wp2
  refine bodyPost_ret (v := .agg #[.float .f64 9218868437227405311, .float .f64 9218868437227405312]) (by simp [results, Tryz.results141, go_sem]) rfl ?_
  exact ⟨rfl, by (repeat refine Below.setCell ?_ (by simp) _); exact (Below.refl _ _).alloc (Nat.le_refl _) _⟩

theorem aroundF_infu (q : Nat) (w : World) (hq : FloatKind.f64.format.order q 0 = some .gt) :
    Calls Tryz.prog 141 #[.float .f64 18442240474082181120, .float .f64 q] w fun e w' => e = .returned (.agg #[.float .f64 18442240474082181120, .float .f64 18442240474082181119]) ∧ Below w.heap.size w w' := by
  go_enter Tryz.func141, Tryz.ntmps141
  go_wp2_with fail
  refine (inf_up _).mono ?_
  rintro e w' ⟨rfl, rfl⟩
  go_wp2_with fail
  refine Calls.mono (next_inf_up _) ?_
  rintro e w' ⟨rfl, rfl⟩
  go_wp2
  refine bodyPost_ret (v := .agg #[.float .f64 18442240474082181120, .float .f64 18442240474082181119]) (by simp [results, Tryz.results141, go_sem]) rfl ?_
  exact ⟨rfl, by (repeat refine Below.setCell ?_ (by simp) _); exact (Below.refl _ _).alloc (Nat.le_refl _) _⟩

/-- Whatever the remainder: the ends lie beside the float. -/
theorem around_near (s : Bool) (R q : Nat) (o : Ordering) (h0 : 0 < R) (h : R < 9218868437227405312) (hq : FloatKind.f64.format.order q 0 = some o) :
    ∃ D U, R - 1 ≤ D ∧ D ≤ R + 1 ∧ R - 1 ≤ U ∧ U ≤ R + 1 ∧ Gives 141 #[.float .f64 (wd s R), .float .f64 q] (wd s D) (wd s U) := by
  cases o
  · exact ⟨_, _, by split <;> omega, by split <;> omega, by omega, by omega, fun w => aroundF_neg s R q w hq h h0⟩
  · exact ⟨R, R, by omega, by omega, by omega, by omega, fun w => aroundF_eq (wd s R) q w hq⟩
  · exact ⟨_, _, by omega, by omega, by split <;> omega, by split <;> omega, fun w => aroundF_pos s R q w hq h h0⟩

theorem around_tiny (s : Bool) (R q : Nat) (o : Ordering) (h0 : 1 < R) (h : R < 553942754166571007) (hq : FloatKind.f64.format.order q 0 = some o) :
    ∃ d u, FR d (sgI s 553942754166571007) ∧ FR u (sgI s 553942754166571007) ∧ Gives 141 #[.float .f64 (wd s R), .float .f64 q] d u := by
  obtain ⟨D, U, a1, a2, a3, a4, hG⟩ := around_near s R q o (by omega) (by omega) hq
  exact ⟨_, _, FR_tiny s (by omega) (by omega), FR_tiny s (by omega) (by omega), hG⟩

theorem around_huge (s : Bool) (R q : Nat) (o : Ordering) (h0 : 8660422083433463809 < R) (h : R ≤ 9218868437227405312) (hq : FloatKind.f64.format.order q 0 = some o) (hi : R = 9218868437227405312 → o = if s then .gt else .lt) :
    ∃ d u, FR d (sgI s 8660422083433463809) ∧ FR u (sgI s 8660422083433463809) ∧ Gives 141 #[.float .f64 (wd s R), .float .f64 q] d u := by
  by_cases hR : R = 9218868437227405312
  · have ho := hi hR
    subst hR
    cases s
    · rw [if_neg Bool.false_ne_true] at ho
      subst ho
      exact ⟨_, _, FR_huge false (R := 9218868437227405311) (by omega) (by omega), FR_huge false (R := 9218868437227405312) (by omega) (by omega), fun w => aroundF_infd q w hq⟩
    · rw [if_pos rfl] at ho
      subst ho
      exact ⟨_, _, FR_huge true (R := 9218868437227405312) (by omega) (by omega), FR_huge true (R := 9218868437227405311) (by omega) (by omega), fun w => aroundF_infu q w hq⟩
  · obtain ⟨D, U, a1, a2, a3, a4, hG⟩ := around_near s R q o (by omega) (by omega) hq
    exact ⟨_, _, FR_huge s (by omega) (by omega), FR_huge s (by omega) (by omega), hG⟩

/-- No written number is a NaN. -/
theorem order_write (s : Bool) (n : Nat) (e : Int) : ∃ o, FloatKind.f64.format.order (double.nearest s n e) 0 = some o := by
  have hz : (0 : Nat) = wd false 0 := rfl
  show ∃ o, double.order _ _ = some o
  by_cases h0 : n = 0
  · subst h0
    have : double.nearest s 0 e = wd s 0 := by cases s <;> rfl
    rw [this, hz]
    exact ⟨_, order_wd (by omega) (by omega)⟩
  · obtain ⟨R, h1, h2, _⟩ := nearest_any s e h0
    rw [h1, hz]
    exact ⟨_, order_wd h2 (by omega)⟩
end Go.Proofs.YtonhpkigoplmaaaGreatDoor
namespace Go.Proofs.YtonhpkigoplmaaaGreatDoor
open Go.RowKit Go.Extern Ieee
attribute [local go_sem] run_store_float

/-- A float's word with the other sign. -/
def negW (b : Nat) : Nat := Op.negFloat .f64 b

theorem run_neg_float {P : Program} (w : World) (b : Nat) : (Op.unary .neg (.float .f64 b)).run P w = .ok (.float .f64 (negW b)) w := rfl

theorem c_fma {P : Program} (w : World) {x y z r : Nat} (h : double.fma x y z = some r) : (MathFMA.fma #[.float .f64 x, .float .f64 y, .float .f64 z]).run P w = .ok (.float .f64 r) w := by
  have h' : FloatKind.f64.format.fma x y z = some r := h
  delta MathFMA.fma MathFMA.fma.match_3
  simp only [Array.getLit, List.size_toArray, List.length_cons, List.length_nil, Nat.zero_add, Nat.reduceAdd, dite_true, List.getElem_toArray, List.getElem_cons_zero, List.getElem_cons_succ]
  delta MathFMA.fma._sparseCasesOn_3 MathFMA.fma._sparseCasesOn_4
  dsimp only
  rw [h']
  rfl

theorem lost_any (b : Bool) : Gives 143 #[.bool b] (wd b 103582791429521408) (wd b 103582791429521408) := by
  intro w
  cases b
  · go_enter Tryz.func143, Tryz.ntmps143
    go_wp2
    refine bodyPost_ret (v := .agg #[.float .f64 103582791429521408, .float .f64 103582791429521408]) (by simp [results, Tryz.results143, go_sem]) rfl ?_
    exact ⟨rfl, (Below.refl _ _).alloc (Nat.le_refl _) _⟩
  · go_enter Tryz.func143, Tryz.ntmps143
    go_wp2
    refine bodyPost_ret (v := .agg #[.float .f64 9326954828284297216, .float .f64 9326954828284297216]) (by simp [results, Tryz.results143, go_sem]) rfl ?_
    exact ⟨rfl, (Below.refl _ _).alloc (Nat.le_refl _) _⟩

theorem isLost_any (s : Bool) (R : Nat) (w : World) (hR : R ≤ 9218868437227405312) : Calls Tryz.prog 142 #[.float .f64 (wd s R)] w fun e w' => e = .returned (.bool (decide (R < 103582791429521408))) ∧ w' = w := by
  have hb : wd s R < 18446744073709551616 := wd_lt (by omega)
  have hm : wd s R % 9223372036854775808 = R := by unfold wd; split <;> omega
  have ho : FloatKind.f64.format.order R 103582791429521408 = some (compare (R : Int) 103582791429521408) := by
    have := order_wd (s := false) (t := false) (r := R) (q := 103582791429521408) hR (by omega)
    exact this
  have hA := abs_any (wd s R)
  rw [hm] at hA
  clear hm
  generalize wd s R = b at *
  by_cases h : R < 103582791429521408
  · rw [cmp_lt' (show (R : Int) < 103582791429521408 by omega)] at ho
    rw [decide_eq_true h]
    clear h hR
    go_enter Tryz.func142, Tryz.ntmps142
    go_wp2_with fail
    refine Calls.mono (hA _ hb) ?_
    rintro e w' ⟨rfl, rfl⟩
    go_wp2
    go_ret
    exact ⟨rfl, rfl⟩
  · have hne : (some (compare (R : Int) 103582791429521408) == some Ordering.lt) = false := by
      rcases (show (R : Int) = 103582791429521408 ∨ (103582791429521408 : Int) < R by omega) with h' | h'
      · rw [cmp_eq' h']; rfl
      · rw [cmp_gt' h']; rfl
    rw [← ho] at hne
    clear ho
    rw [decide_eq_false h]
    clear h hR
    go_enter Tryz.func142, Tryz.ntmps142
    go_wp2_with fail
    refine Calls.mono (hA _ hb) ?_
    rintro e w' ⟨rfl, rfl⟩
    go_wp2
    go_ret
    exact ⟨rfl, rfl⟩

/-- A factor is 0. -/
theorem productF_zero (x y : Nat) (ox oy : Ordering) (hx : FloatKind.f64.format.order x 0 = some ox) (hy : FloatKind.f64.format.order y 0 = some oy) (h : ox = .eq ∨ oy = .eq) : Gives 92 #[.float .f64 x, .float .f64 y] 0 0 := by
  intro w
  have cx : (FloatKind.f64.format.order x 0 == some Ordering.eq) = (ox == .eq) := by rw [hx]; cases ox <;> rfl
  have cy : (FloatKind.f64.format.order y 0 == some Ordering.eq) = (oy == .eq) := by rw [hy]; cases oy <;> rfl
  clear hx hy
  by_cases h1 : ox = .eq
  · have e1 : (ox == .eq) = true := by rw [h1]; rfl
    rw [e1] at cx
    clear e1 h cy
    go_enter Tryz.func92, Tryz.ntmps92
    go_wp2
    refine bodyPost_ret (v := .agg #[.float .f64 0, .float .f64 0]) (by simp [results, Tryz.results92, go_sem]) rfl ?_
    exact ⟨rfl, (Below.refl _ _).alloc (Nat.le_refl _) _⟩
  · have h2 : oy = .eq := by rcases h with h | h; exact absurd h h1; exact h
    have e1 : (ox == .eq) = false := by cases ox <;> first | rfl | exact absurd rfl h1
    have e2 : (oy == .eq) = true := by rw [h2]; rfl
    rw [e1] at cx
    rw [e2] at cy
    clear e1 e2 h h1 h2
    go_enter Tryz.func92, Tryz.ntmps92
    go_wp2
    refine bodyPost_ret (v := .agg #[.float .f64 0, .float .f64 0]) (by simp [results, Tryz.results92, go_sem]) rfl ?_
    exact ⟨rfl, (Below.refl _ _).alloc (Nat.le_refl _) _⟩

/-- A product that is lost. -/
theorem productF_lost (x y : Nat) (sx sy : Bool) (s : Bool) (R : Nat) (hx : FloatKind.f64.format.order x 0 = some (if sx then .lt else .gt)) (hy : FloatKind.f64.format.order y 0 = some (if sy then .lt else .gt)) (hm : double.mul x y = some (wd s R)) (hR : R < 103582791429521408) :
    Gives 92 #[.float .f64 x, .float .f64 y] (wd (sx ^^ sy) 103582791429521408) (wd (sx ^^ sy) 103582791429521408) := by
  intro w
  have g1 : ∀ w, (binOp .mul 65 (.float .f64 x) (.float .f64 y)).run Tryz.prog w = .ok (.float .f64 (wd s R)) w := fun w => run_float_arith w .mul _ .f64 x y _ hm
  have hL := isLost_any s R
  rw [decide_eq_true hR] at hL
  have HL : Hid (Gives 143 #[.bool (sx ^^ sy)] (wd (sx ^^ sy) 103582791429521408) (wd (sx ^^ sy) 103582791429521408)) := lost_any (sx ^^ sy)
  have hR : R ≤ 9218868437227405312 := by omega
  generalize wd (sx ^^ sy) 103582791429521408 = l at *
  clear hm
  generalize wd s R = b at *
  cases sx <;> cases sy
  · have hx' : FloatKind.f64.format.order x 0 = some .gt := hx
    have hy' : FloatKind.f64.format.order y 0 = some .gt := hy
    clear hx hy
    go_enter Tryz.func92, Tryz.ntmps92
    go_wp2_with fail
    refine Calls.mono (hL _ hR) ?_
    rintro e w' ⟨rfl, rfl⟩
    go_wp2_with fail
    refine Calls.mono (HL.out _) ?_
    rintro e w1 ⟨rfl, hb1⟩
    have B0 := blk_below (blk_new w _) hb1
    obtain ⟨k0, k1, k2, k3⟩ := blk2 B0
    have HB1 : Hid (Below w.heap.size w w1) := ((Below.refl _ _).alloc (Nat.le_refl _) _).trans (hb1.mono (by simp))
    clear hb1 B0 HL
    go_wp2
    refine bodyPost_ret (v := .agg #[.float .f64 l, .float .f64 l]) (by simp [results, Tryz.results92, go_sem, k0, k1]) rfl ?_
    exact ⟨rfl, (HB1.out.setCell (by simp) _).setCell (by simp) _⟩
  · have hx' : FloatKind.f64.format.order x 0 = some .gt := hx
    have hy' : FloatKind.f64.format.order y 0 = some .lt := hy
    clear hx hy
    go_enter Tryz.func92, Tryz.ntmps92
    go_wp2_with fail
    refine Calls.mono (hL _ hR) ?_
    rintro e w' ⟨rfl, rfl⟩
    go_wp2_with fail
    refine Calls.mono (HL.out _) ?_
    rintro e w1 ⟨rfl, hb1⟩
    have B0 := blk_below (blk_new w _) hb1
    obtain ⟨k0, k1, k2, k3⟩ := blk2 B0
    have HB1 : Hid (Below w.heap.size w w1) := ((Below.refl _ _).alloc (Nat.le_refl _) _).trans (hb1.mono (by simp))
    clear hb1 B0 HL
    go_wp2
    refine bodyPost_ret (v := .agg #[.float .f64 l, .float .f64 l]) (by simp [results, Tryz.results92, go_sem, k0, k1]) rfl ?_
    exact ⟨rfl, (HB1.out.setCell (by simp) _).setCell (by simp) _⟩
  · have hx' : FloatKind.f64.format.order x 0 = some .lt := hx
    have hy' : FloatKind.f64.format.order y 0 = some .gt := hy
    clear hx hy
    go_enter Tryz.func92, Tryz.ntmps92
    go_wp2_with fail
    refine Calls.mono (hL _ hR) ?_
    rintro e w' ⟨rfl, rfl⟩
    go_wp2_with fail
    refine Calls.mono (HL.out _) ?_
    rintro e w1 ⟨rfl, hb1⟩
    have B0 := blk_below (blk_new w _) hb1
    obtain ⟨k0, k1, k2, k3⟩ := blk2 B0
    have HB1 : Hid (Below w.heap.size w w1) := ((Below.refl _ _).alloc (Nat.le_refl _) _).trans (hb1.mono (by simp))
    clear hb1 B0 HL
    go_wp2
    refine bodyPost_ret (v := .agg #[.float .f64 l, .float .f64 l]) (by simp [results, Tryz.results92, go_sem, k0, k1]) rfl ?_
    exact ⟨rfl, (HB1.out.setCell (by simp) _).setCell (by simp) _⟩
  · have hx' : FloatKind.f64.format.order x 0 = some .lt := hx
    have hy' : FloatKind.f64.format.order y 0 = some .lt := hy
    clear hx hy
    go_enter Tryz.func92, Tryz.ntmps92
    go_wp2_with fail
    refine Calls.mono (hL _ hR) ?_
    rintro e w' ⟨rfl, rfl⟩
    go_wp2_with fail
    refine Calls.mono (HL.out _) ?_
    rintro e w1 ⟨rfl, hb1⟩
    have B0 := blk_below (blk_new w _) hb1
    obtain ⟨k0, k1, k2, k3⟩ := blk2 B0
    have HB1 : Hid (Below w.heap.size w w1) := ((Below.refl _ _).alloc (Nat.le_refl _) _).trans (hb1.mono (by simp))
    clear hb1 B0 HL
    go_wp2
    refine bodyPost_ret (v := .agg #[.float .f64 l, .float .f64 l]) (by simp [results, Tryz.results92, go_sem, k0, k1]) rfl ?_
    exact ⟨rfl, (HB1.out.setCell (by simp) _).setCell (by simp) _⟩

/-- A product that is not lost. -/
theorem productF_main (x y : Nat) (sx sy : Bool) (s : Bool) (R q d u : Nat) (hx : FloatKind.f64.format.order x 0 = some (if sx then .lt else .gt)) (hy : FloatKind.f64.format.order y 0 = some (if sy then .lt else .gt)) (hm : double.mul x y = some (wd s R)) (hR : ¬ R < 103582791429521408) (hR2 : R ≤ 9218868437227405312) (hq : double.fma x y (negW (wd s R)) = some q)
    (hA : Gives 141 #[.float .f64 (wd s R), .float .f64 q] d u) : Gives 92 #[.float .f64 x, .float .f64 y] d u := by
  intro w
  have g1 : ∀ w, (binOp .mul 65 (.float .f64 x) (.float .f64 y)).run Tryz.prog w = .ok (.float .f64 (wd s R)) w := fun w => run_float_arith w .mul _ .f64 x y _ hm
  have hF := @run_callFunc_extern Tryz.prog 144 _ MathFMA.fma Tryz.func144 (by kernel_rfl) (by kernel_rfl) (by kernel_rfl) (by kernel_rfl)
  have cF : ∀ w, (MathFMA.fma #[.float .f64 x, .float .f64 y, .float .f64 (negW (wd s R))]).run Tryz.prog w = .ok (.float .f64 q) w := fun w => c_fma w hq
  have cN : ∀ w, (Op.unary .neg (.float .f64 (wd s R))).run Tryz.prog w = .ok (.float .f64 (negW (wd s R))) w := fun w => run_neg_float w _
  have hL := isLost_any s R
  rw [decide_eq_false hR] at hL
  have HA : Hid (Gives 141 #[.float .f64 (wd s R), .float .f64 q] d u) := hA
  clear hm hq hA
  generalize negW (wd s R) = nb at *
  generalize wd s R = b at *
  cases sx <;> cases sy
  · have hx' : FloatKind.f64.format.order x 0 = some .gt := hx
    have hy' : FloatKind.f64.format.order y 0 = some .gt := hy
    clear hx hy
    go_enter Tryz.func92, Tryz.ntmps92
    go_wp2_with fail
    refine Calls.mono (hL _ hR2) ?_
    rintro e w' ⟨rfl, rfl⟩
    go_wp2_with fail
    refine Calls.mono (HA.out _) ?_
    rintro e w1 ⟨rfl, hb1⟩
    have B0 := blk_below (blk_new w _) hb1
    obtain ⟨k0, k1, k2, k3⟩ := blk2 B0
    have HB1 : Hid (Below w.heap.size w w1) := ((Below.refl _ _).alloc (Nat.le_refl _) _).trans (hb1.mono (by simp))
    clear hb1 B0 HA
    go_wp2
    refine bodyPost_ret (v := .agg #[.float .f64 d, .float .f64 u]) (by simp [results, Tryz.results92, go_sem, k0, k1]) rfl ?_
    exact ⟨rfl, (HB1.out.setCell (by simp) _).setCell (by simp) _⟩
  · have hx' : FloatKind.f64.format.order x 0 = some .gt := hx
    have hy' : FloatKind.f64.format.order y 0 = some .lt := hy
    clear hx hy
    go_enter Tryz.func92, Tryz.ntmps92
    go_wp2_with fail
    refine Calls.mono (hL _ hR2) ?_
    rintro e w' ⟨rfl, rfl⟩
    go_wp2_with fail
    refine Calls.mono (HA.out _) ?_
    rintro e w1 ⟨rfl, hb1⟩
    have B0 := blk_below (blk_new w _) hb1
    obtain ⟨k0, k1, k2, k3⟩ := blk2 B0
    have HB1 : Hid (Below w.heap.size w w1) := ((Below.refl _ _).alloc (Nat.le_refl _) _).trans (hb1.mono (by simp))
    clear hb1 B0 HA
    go_wp2
    refine bodyPost_ret (v := .agg #[.float .f64 d, .float .f64 u]) (by simp [results, Tryz.results92, go_sem, k0, k1]) rfl ?_
    exact ⟨rfl, (HB1.out.setCell (by simp) _).setCell (by simp) _⟩
  · have hx' : FloatKind.f64.format.order x 0 = some .lt := hx
    have hy' : FloatKind.f64.format.order y 0 = some .gt := hy
    clear hx hy
    go_enter Tryz.func92, Tryz.ntmps92
    go_wp2_with fail
    refine Calls.mono (hL _ hR2) ?_
    rintro e w' ⟨rfl, rfl⟩
    go_wp2_with fail
    refine Calls.mono (HA.out _) ?_
    rintro e w1 ⟨rfl, hb1⟩
    have B0 := blk_below (blk_new w _) hb1
    obtain ⟨k0, k1, k2, k3⟩ := blk2 B0
    have HB1 : Hid (Below w.heap.size w w1) := ((Below.refl _ _).alloc (Nat.le_refl _) _).trans (hb1.mono (by simp))
    clear hb1 B0 HA
    go_wp2
    refine bodyPost_ret (v := .agg #[.float .f64 d, .float .f64 u]) (by simp [results, Tryz.results92, go_sem, k0, k1]) rfl ?_
    exact ⟨rfl, (HB1.out.setCell (by simp) _).setCell (by simp) _⟩
  · have hx' : FloatKind.f64.format.order x 0 = some .lt := hx
    have hy' : FloatKind.f64.format.order y 0 = some .lt := hy
    clear hx hy
    go_enter Tryz.func92, Tryz.ntmps92
    go_wp2_with fail
    refine Calls.mono (hL _ hR2) ?_
    rintro e w' ⟨rfl, rfl⟩
    go_wp2_with fail
    refine Calls.mono (HA.out _) ?_
    rintro e w1 ⟨rfl, hb1⟩
    have B0 := blk_below (blk_new w _) hb1
    obtain ⟨k0, k1, k2, k3⟩ := blk2 B0
    have HB1 : Hid (Below w.heap.size w w1) := ((Below.refl _ _).alloc (Nat.le_refl _) _).trans (hb1.mono (by simp))
    clear hb1 B0 HA
    go_wp2
    refine bodyPost_ret (v := .agg #[.float .f64 d, .float .f64 u]) (by simp [results, Tryz.results92, go_sem, k0, k1]) rfl ?_
    exact ⟨rfl, (HB1.out.setCell (by simp) _).setCell (by simp) _⟩
end Go.Proofs.YtonhpkigoplmaaaGreatDoor
namespace Go.Proofs.YtonhpkigoplmaaaGreatDoor
open Go.RowKit Go.Extern Ieee

theorem xor_top {R : Nat} (h : R < 9223372036854775808) : R ^^^ 9223372036854775808 = R + 9223372036854775808 := by
  have e : (9223372036854775808 : Nat) = 2 ^ 63 := by decide
  rw [e] at h ⊢
  rw [Nat.add_comm]
  apply Nat.eq_of_testBit_eq
  intro i
  rw [Nat.testBit_xor, Nat.testBit_two_pow]
  rcases (show i < 63 ∨ i = 63 ∨ 63 < i by omega) with hi | hi | hi
  · rw [Nat.testBit_two_pow_add_gt hi, decide_eq_false (by omega), Bool.xor_false]
  · subst hi
    rw [Nat.testBit_two_pow_add_eq, decide_eq_true rfl, Bool.xor_true]
  · have h2 : 2 ^ 63 + R < 2 ^ i := by
      have : (2 : Nat) ^ 64 ≤ 2 ^ i := pow_mono (by omega)
      rw [show (64 : Nat) = 63 + 1 from rfl, Nat.pow_succ] at this
      omega
    rw [Nat.testBit_lt_two_pow h2, Nat.testBit_lt_two_pow (show R < 2 ^ i by omega), decide_eq_false (by omega)]; rfl

theorem negW_wd {s : Bool} {R : Nat} (h : R < 9223372036854775808) : negW (wd s R) = wd (!s) R := by
  have e : negW (wd s R) = wd s R ^^^ 9223372036854775808 := rfl
  rw [e]
  unfold wd
  cases s
  · rw [if_neg Bool.false_ne_true, Nat.add_zero, xor_top h]; rfl
  · rw [if_pos rfl, ← xor_top h, Nat.xor_assoc, Nat.xor_self, Nat.xor_zero]; rfl

theorem read_opp {s : Bool} {R : Nat} (h : R < 9223372036854775808) : double.read (wd (!s) R) = (double.read (wd s R)).opposite := by
  have hsw : double.signWeight = 9223372036854775808 := rfl
  have hbn : double.binade = 4503599627370496 := rfl
  have hir : double.infRung = 9218868437227405312 := rfl
  have hlp : double.leastPlace = -1074 := rfl
  have hm : ∀ s, wd s R % 9223372036854775808 = R := by intro s; unfold wd; split <;> omega
  have hd : ∀ s, (wd s R / 9223372036854775808 % 2 == 1) = s := by
    intro s
    unfold wd
    cases s
    · rw [if_neg Bool.false_ne_true, show (R + 0) / 9223372036854775808 % 2 = 0 by omega]; rfl
    · rw [if_pos rfl, show (R + 9223372036854775808) / 9223372036854775808 % 2 = 1 by omega]; rfl
  unfold Format.read
  simp only [hsw, hbn, hir, hlp, hm, hd]
  by_cases h1 : R < 4503599627370496
  · rw [if_pos h1, if_pos h1]; rfl
  · rw [if_neg h1, if_neg h1]
    by_cases h2 : R < 9218868437227405312
    · rw [if_pos h2, if_pos h2]; rfl
    · rw [if_neg h2, if_neg h2]
      by_cases h3 : R = 9218868437227405312
      · rw [if_pos h3, if_pos h3]; rfl
      · rw [if_neg h3, if_neg h3]; rfl

theorem read_negW {b : Nat} (hb : b < 18446744073709551616) : double.read (negW b) = (double.read b).opposite := by
  have := wd_self hb
  rw [← this, negW_wd (by omega), read_opp (by omega)]

/-- A plain float that is not 0: its sign and its data. -/
theorem plain_parts {b : Nat} {x : Bool × Nat × Int} (hb : b < 18446744073709551616) (h : plainN b = some x) (h0 : x.2.1 ≠ 0) :
    double.read b = .number x.1 x.2.1 x.2.2 ∧ FloatKind.f64.format.order b 0 = some (if x.1 then .lt else .gt) ∧ 4503599627370496 ≤ x.2.1 ∧ x.2.1 < 9007199254740992 ∧ -952 ≤ x.2.2 ∧ x.2.2 ≤ 848 := by
  obtain ⟨s, n, e⟩ := x
  simp only at h0 ⊢
  have hn := plain_num h
  have hr : double.read b = .number s n e := by
    rcases plain_read hb h with ⟨h1, _⟩ | ⟨_, h2⟩
    · exact absurd h1 h0
    · exact h2
  refine ⟨hr, ?_, ?_⟩
  · show double.order b 0 = _
    unfold Format.order
    have hz : double.read 0 = .number false 0 (-1074) := rfl
    rw [hr, hz]
    simp only [Datum.order, signed_eq, Nat.zero_mul, sg_zero]
    have hpos : 0 < n * 2 ^ (e - min e (-1074)).toNat := Nat.mul_pos (Nat.pos_of_ne_zero h0) (Nat.two_pow_pos _)
    generalize n * 2 ^ (e - min e (-1074)).toNat = m at *
    cases s
    · rw [cmp_gt' (by simp [sg]; omega)]; rfl
    · rw [cmp_lt' (by simp [sg]; omega)]; rfl
  · rcases hn with h | h
    · cases h; exact absurd rfl h0
    · exact h

theorem plain_zero_order {b : Nat} {x : Bool × Nat × Int} (hb : b < 18446744073709551616) (h : plainN b = some x) (h0 : x.2.1 = 0) : FloatKind.f64.format.order b 0 = some .eq := by
  obtain ⟨s, n, e⟩ := x
  simp only at h0
  subst h0
  show double.order b 0 = _
  unfold Format.order
  have hz : double.read 0 = .number false 0 (-1074) := rfl
  rcases plain_read hb h with ⟨_, _, _, s', h2⟩ | ⟨h1, _⟩
  · rw [h2, hz]
    simp only [Datum.order, signed_eq, Nat.zero_mul, sg_zero]; rfl
  · omega

/-- What encloseref.product gives. -/
def prodN (x y : Bool × Nat × Int) : Bool × Nat × Int := ((x.1 != y.1) && decide (x.2.1 * y.2.1 ≠ 0), x.2.1 * y.2.1, x.2.2 + y.2.2)

theorem ends_zero {x : Bool × Nat × Int} (h : x.2.1 = 0) : Ends x 0 0 := by
  unfold Ends posV
  rw [if_pos h, if_pos h]
  exact ⟨FR_zero, FR_zero⟩

theorem ends_tiny (s : Bool) {n : Nat} {e : Int} {d u : Nat} (h0 : n ≠ 0) (h : e + bl n ≤ -901) (hd : FR d (sgI s 553942754166571007)) (hu : FR u (sgI s 553942754166571007)) : Ends (s, n, e) d u := by
  unfold Ends
  rw [posV_tiny s _ h0 h, posV_tiny s _ h0 h]
  exact ⟨hd, hu⟩

theorem ends_huge (s : Bool) {n : Nat} {e : Int} {d u : Nat} (h0 : n ≠ 0) (h : 902 ≤ e + bl n) (hd : FR d (sgI s 8660422083433463809)) (hu : FR u (sgI s 8660422083433463809)) : Ends (s, n, e) d u := by
  unfold Ends
  rw [posV_huge s _ h0 h, posV_huge s _ h0 h]
  exact ⟨hd, hu⟩

theorem sg_sign {s : Bool} {n : Nat} (h : n ≠ 0) : decide (sg s n < 0) = s ∧ (sg s n).natAbs = n ∧ sg s n ≠ 0 := by
  unfold sg
  cases s
  · rw [if_neg Bool.false_ne_true]; exact ⟨decide_eq_false (by omega), by omega, by omega⟩
  · rw [if_pos rfl]; exact ⟨decide_eq_true (by omega), by omega, by omega⟩

theorem bl_prod {m n : Nat} (h1 : 4503599627370496 ≤ m) (h2 : m < 9007199254740992) (h3 : 4503599627370496 ≤ n) (h4 : n < 9007199254740992) : 105 ≤ bl (m * n) ∧ bl (m * n) ≤ 106 := by
  constructor
  · have : (2 : Nat) ^ 104 ≤ m * n := by
      have := Nat.mul_le_mul h1 h3
      have e : (2 : Nat) ^ 104 = 4503599627370496 * 4503599627370496 := by decide
      omega
    exact bl_gt this
  · apply bl_le
    have := Nat.mul_lt_mul'' h2 h4
    have e : (2 : Nat) ^ 106 = 9007199254740992 * 9007199254740992 := by decide
    omega

/-- The nearest float within range is that of a whole number of 2 ^ e. -/
theorem nearest_fd {s : Bool} {n : Nat} (e : Int) (h0 : n ≠ 0) : double.nearest s n e = fd e (sg s n) := by
  obtain ⟨a1, a2, a3⟩ := sg_sign (s := s) h0
  unfold fd
  rw [a1, a2]

theorem sum_write (s t : Bool) (m n : Nat) (i j : Int) : ∃ q o, (Datum.sum (.number s m i) (.number t n j)).map double.write = some q ∧ FloatKind.f64.format.order q 0 = some o := by
  obtain ⟨o, ho⟩ := order_write (if signed s m (i - min i j).toNat + signed t n (j - min i j).toNat = 0 then s && t else decide (signed s m (i - min i j).toNat + signed t n (j - min i j).toNat < 0)) (signed s m (i - min i j).toNat + signed t n (j - min i j).toNat).natAbs (min i j)
  exact ⟨_, o, rfl, ho⟩

theorem order_inf (s : Bool) : FloatKind.f64.format.order (wd (!s) 9218868437227405312) 0 = some (if s then .gt else .lt) := by
  cases s <;> rfl

/-- The exact sum with the float nearest to a number, its sign turned: the remainder. -/
theorem rest_fd {e z : Int} {s : Bool} {n : Nat} {p : Int} (hM : Means e z s n p) (h0 : z ≠ 0) (hs : s = decide (z < 0)) (he1 : -1022 ≤ e) (he2 : e + bl z.natAbs ≤ 1019) :
    (Datum.sum (.number s n p) (double.read (negW (fd e z)))).map double.write = some (fd e (z - nearI z)) := by
  have hbp := bl_pos (n := z.natAbs) (by omega)
  have hN0 : nearI z ≠ 0 := by
    have h1 := nearI_abs z
    have h2 := (nearM_facts (n := z.natAbs) (by omega)).1
    omega
  have hbN : bl (nearI z).natAbs ≤ bl z.natAbs + 1 := by
    rw [nearI_abs]
    exact (nearM_facts (n := z.natAbs) (by omega)).2.2.2
  have hsg : decide (nearI z < 0) = decide (z < 0) := by
    apply decide_eq_decide.2
    by_cases h : z < 0
    · have := (nearI_sgn z).1 h; omega
    · have := (nearI_sgn z).2 h; omega
  have hlt : fd e z < 18446744073709551616 := by
    obtain ⟨R, hR, hR2, _⟩ := nearest_any (decide (z < 0)) (n := z.natAbs) e (by omega)
    unfold fd
    rw [hR]; exact wd_lt (by omega)
  rw [read_negW hlt, ← nearI_fd h0 he1 (by omega)]
  obtain ⟨t, m, q, h1, h2, h3, h4⟩ := read_fd (e := e) (z := nearI z) ⟨he1, by omega⟩ (nearI_rep z)
  rw [h1]
  have hd : (z - nearI z).natAbs < 2 * 2 ^ bl z.natAbs := by
    have := near_best z 0 rep_zero
    have hb := (bl_bounds (n := z.natAbs) (by omega)).2.1
    omega
  have hF : Fits e (z + -nearI z) := by
    rw [← Int.sub_eq_add_neg]
    have : bl (z - nearI z).natAbs ≤ bl z.natAbs + 1 := bl_le (by rw [Nat.pow_succ]; omega)
    exact ⟨he1, by omega⟩
  have := sum_means hM h2.opp hF (by
    intro _
    rw [h4 hN0, hsg, hs]
    cases decide (z < 0) <;> rfl)
  rw [Int.sub_eq_add_neg]
  exact this

theorem prod_plain {x y : Nat} {p q : Bool × Nat × Int} (hx : x < 18446744073709551616) (hy : y < 18446744073709551616) (px : plainN x = some p) (py : plainN y = some q) :
    ∃ d u, Ends (prodN p q) d u ∧ Gives 92 #[.float .f64 x, .float .f64 y] d u := by
  by_cases hp0 : p.2.1 = 0
  · have ho := plain_zero_order hx px hp0
    refine ⟨0, 0, ends_zero (by unfold prodN; rw [hp0]; simp), ?_⟩
    by_cases hq0 : q.2.1 = 0
    · exact productF_zero x y _ _ ho (plain_zero_order hy py hq0) (Or.inl rfl)
    · exact productF_zero x y _ _ ho (plain_parts hy py hq0).2.1 (Or.inl rfl)
  · by_cases hq0 : q.2.1 = 0
    · refine ⟨0, 0, ends_zero (by unfold prodN; rw [hq0]; simp), ?_⟩
      exact productF_zero x y _ _ (plain_parts hx px hp0).2.1 (plain_zero_order hy py hq0) (Or.inr rfl)
    · obtain ⟨sx, mx, ex⟩ := p
      obtain ⟨sy, my, ey⟩ := q
      obtain ⟨rx, ox, x1, x2, x3, x4⟩ := plain_parts hx px hp0
      obtain ⟨ry, oy, y1, y2, y3, y4⟩ := plain_parts hy py hq0
      simp only at *
      have hn : mx * my ≠ 0 := Nat.mul_ne_zero hp0 hq0
      have hb := bl_prod x1 x2 y1 y2
      have hpn : prodN (sx, mx, ex) (sy, my, ey) = (sx ^^ sy, mx * my, ex + ey) := by
        unfold prodN
        simp only
        rw [decide_eq_true hn, Bool.and_true]
      rw [hpn]
      have hmul : double.mul x y = some (double.nearest (sx ^^ sy) (mx * my) (ex + ey)) := by
        unfold Format.mul
        rw [rx, ry]; rfl
      have hfma : ∀ z, double.fma x y z = ((Datum.number (sx ^^ sy) (mx * my) (ex + ey)).sum (double.read z)).map double.write := by
        intro z
        unfold Format.fma
        rw [rx, ry]; rfl
      have hlost := productF_lost x y sx sy
      have hmain := productF_main x y sx sy
      generalize (sx ^^ sy) = s at *
      obtain ⟨R, hR, hR2, hmid, htin, hhug⟩ := nearest_any s (ex + ey) hn
      have rb := rung_bounds (ex + ey) hn
      rw [hR] at hmul
      have hup : -1021 ≤ ex + ey + bl (mx * my) → ex + ey + bl (mx * my) ≤ 1023 → rung (mx * my) (ex + ey) ≤ R ∧ (R : Int) ≤ rung (mx * my) (ex + ey) + 1 := by
        intro h1 h2
        have := hmid h1 h2
        split at this <;> omega
      have hneg : double.read (negW (wd s R)) = (double.read (wd s R)).opposite := read_negW (wd_lt (by omega))
      by_cases hl : R < 103582791429521408
      · exact ⟨_, _, ends_tiny s hn (by omega) (FR_tiny s (by omega) (by omega)) (FR_tiny s (by omega) (by omega)), hlost s R ox oy hmul hl⟩
      · have hq := hfma (negW (wd s R))
        by_cases he1 : ex + ey < -1022
        · obtain ⟨m', i', r1, _, _⟩ := read_vr (s := s) (r := R) (by omega)
          obtain ⟨q, o, q1, q2⟩ := sum_write s (!s) (mx * my) m' (ex + ey) i'
          rw [hneg, r1] at hq
          obtain ⟨d, u, hd, hu, hG⟩ := around_tiny s R q o (by omega) (by omega) q2
          exact ⟨d, u, ends_tiny s hn (by omega) hd hu, hmain s R q d u ox oy hmul hl hR2 (hq.trans q1) hG⟩
        · by_cases he2 : 904 < ex + ey
          · by_cases hinf : R = 9218868437227405312
            · subst hinf
              have r1 := read_wd_inf s
              rw [hneg, r1] at hq
              obtain ⟨d, u, hd, hu, hG⟩ := around_huge s 9218868437227405312 (wd (!s) 9218868437227405312) _ (by omega) (by omega) (order_inf s) (fun _ => rfl)
              refine ⟨d, u, ends_huge s hn (by omega) hd hu, hmain s _ _ d u ox oy hmul hl hR2 (hq.trans ?_) hG⟩
              cases s <;> rfl
            · obtain ⟨m', i', r1, _, _⟩ := read_vr (s := s) (r := R) (by omega)
              obtain ⟨q, o, q1, q2⟩ := sum_write s (!s) (mx * my) m' (ex + ey) i'
              rw [hneg, r1] at hq
              obtain ⟨d, u, hd, hu, hG⟩ := around_huge s R q o (by omega) (by omega) q2 (fun h => absurd h hinf)
              exact ⟨d, u, ends_huge s hn (by omega) hd hu, hmain s R q d u ox oy hmul hl hR2 (hq.trans q1) hG⟩
          · obtain ⟨a1, a2, a3⟩ := sg_sign (s := s) hn
            have hfd := nearest_fd (s := s) (ex + ey) hn
            have hrest := rest_fd (e := ex + ey) (z := sg s (mx * my)) (s := s) (n := mx * my) (p := ex + ey) (fun c _ _ => (sg_mul _ _ _).symm) a3 a1.symm (by omega) (by rw [a2]; omega)
            rw [← hfd, hR] at hrest
            rw [hrest] at hq
            have hlt : mx * my < 2 ^ 106 := Nat.lt_of_lt_of_le (bl_bounds (Nat.pos_of_ne_zero hn)).2.1 (pow_mono hb.2)
            have hnb := near_best (sg s (mx * my)) 0 rep_zero
            obtain ⟨d, u, hE, hG⟩ := around_ends (e := ex + ey) (z := sg s (mx * my)) (M := 106) (by omega) (by omega) (by omega) (by omega)
            rw [← hfd, hR] at hG
            refine ⟨d, u, ?_, hmain s R _ d u ox oy hmul hl hR2 hq hG⟩
            unfold EndsAt at hE
            rw [a1, a2] at hE
            exact hE
end Go.Proofs.YtonhpkigoplmaaaGreatDoor
namespace Go.Proofs.YtonhpkigoplmaaaGreatDoor
open Go.RowKit Go.Extern Ieee
attribute [local go_sem] run_store_float

theorem quotientF_zero (x y : Nat) (hx : FloatKind.f64.format.order x 0 = some .eq) : Gives 94 #[.float .f64 x, .float .f64 y] 0 0 := by
  intro w
  go_enter Tryz.func94, Tryz.ntmps94
  go_wp2
  refine bodyPost_ret (v := .agg #[.float .f64 0, .float .f64 0]) (by simp [results, Tryz.results94, go_sem]) rfl ?_
  exact ⟨rfl, (Below.refl _ _).alloc (Nat.le_refl _) _⟩

theorem quotientF_lost (x y : Nat) (sx sy : Bool) (s : Bool) (R : Nat) (hx : FloatKind.f64.format.order x 0 = some (if sx then .lt else .gt)) (hy : FloatKind.f64.format.order y 0 = some (if sy then .lt else .gt)) (hm : double.div x y = some (wd s R)) (hR : R < 103582791429521408) :
    Gives 94 #[.float .f64 x, .float .f64 y] (wd (sx ^^ sy) 103582791429521408) (wd (sx ^^ sy) 103582791429521408) := by
  intro w
  have g1 : ∀ w, (binOp .quo 65 (.float .f64 x) (.float .f64 y)).run Tryz.prog w = .ok (.float .f64 (wd s R)) w := fun w => run_float_arith w .quo _ .f64 x y _ hm
  have hL := isLost_any s R
  rw [decide_eq_true hR] at hL
  have HL : Hid (Gives 143 #[.bool (sx ^^ sy)] (wd (sx ^^ sy) 103582791429521408) (wd (sx ^^ sy) 103582791429521408)) := lost_any (sx ^^ sy)
  have hR : R ≤ 9218868437227405312 := by omega
  generalize wd (sx ^^ sy) 103582791429521408 = l at *
  clear hm
  generalize wd s R = b at *
  cases sx <;> cases sy
  · have hx' : FloatKind.f64.format.order x 0 = some .gt := hx
    have hy' : FloatKind.f64.format.order y 0 = some .gt := hy
    clear hx hy
    go_enter Tryz.func94, Tryz.ntmps94
    go_wp2_with fail
    refine Calls.mono (hL _ hR) ?_
    rintro e w' ⟨rfl, rfl⟩
    go_wp2_with fail
    refine Calls.mono (HL.out _) ?_
    rintro e w1 ⟨rfl, hb1⟩
    have B0 := blk_below (blk_new w _) hb1
    obtain ⟨k0, k1, k2, k3⟩ := blk2 B0
    have HB1 : Hid (Below w.heap.size w w1) := ((Below.refl _ _).alloc (Nat.le_refl _) _).trans (hb1.mono (by simp))
    clear hb1 B0 HL
    go_wp2
    refine bodyPost_ret (v := .agg #[.float .f64 l, .float .f64 l]) (by simp [results, Tryz.results94, go_sem, k0, k1]) rfl ?_
    exact ⟨rfl, (HB1.out.setCell (by simp) _).setCell (by simp) _⟩
  · have hx' : FloatKind.f64.format.order x 0 = some .gt := hx
    have hy' : FloatKind.f64.format.order y 0 = some .lt := hy
    clear hx hy
    go_enter Tryz.func94, Tryz.ntmps94
    go_wp2_with fail
    refine Calls.mono (hL _ hR) ?_
    rintro e w' ⟨rfl, rfl⟩
    go_wp2_with fail
    refine Calls.mono (HL.out _) ?_
    rintro e w1 ⟨rfl, hb1⟩
    have B0 := blk_below (blk_new w _) hb1
    obtain ⟨k0, k1, k2, k3⟩ := blk2 B0
    have HB1 : Hid (Below w.heap.size w w1) := ((Below.refl _ _).alloc (Nat.le_refl _) _).trans (hb1.mono (by simp))
    clear hb1 B0 HL
    go_wp2
    refine bodyPost_ret (v := .agg #[.float .f64 l, .float .f64 l]) (by simp [results, Tryz.results94, go_sem, k0, k1]) rfl ?_
    exact ⟨rfl, (HB1.out.setCell (by simp) _).setCell (by simp) _⟩
  · have hx' : FloatKind.f64.format.order x 0 = some .lt := hx
    have hy' : FloatKind.f64.format.order y 0 = some .gt := hy
    clear hx hy
    go_enter Tryz.func94, Tryz.ntmps94
    go_wp2_with fail
    refine Calls.mono (hL _ hR) ?_
    rintro e w' ⟨rfl, rfl⟩
    go_wp2_with fail
    refine Calls.mono (HL.out _) ?_
    rintro e w1 ⟨rfl, hb1⟩
    have B0 := blk_below (blk_new w _) hb1
    obtain ⟨k0, k1, k2, k3⟩ := blk2 B0
    have HB1 : Hid (Below w.heap.size w w1) := ((Below.refl _ _).alloc (Nat.le_refl _) _).trans (hb1.mono (by simp))
    clear hb1 B0 HL
    go_wp2
    refine bodyPost_ret (v := .agg #[.float .f64 l, .float .f64 l]) (by simp [results, Tryz.results94, go_sem, k0, k1]) rfl ?_
    exact ⟨rfl, (HB1.out.setCell (by simp) _).setCell (by simp) _⟩
  · have hx' : FloatKind.f64.format.order x 0 = some .lt := hx
    have hy' : FloatKind.f64.format.order y 0 = some .lt := hy
    clear hx hy
    go_enter Tryz.func94, Tryz.ntmps94
    go_wp2_with fail
    refine Calls.mono (hL _ hR) ?_
    rintro e w' ⟨rfl, rfl⟩
    go_wp2_with fail
    refine Calls.mono (HL.out _) ?_
    rintro e w1 ⟨rfl, hb1⟩
    have B0 := blk_below (blk_new w _) hb1
    obtain ⟨k0, k1, k2, k3⟩ := blk2 B0
    have HB1 : Hid (Below w.heap.size w w1) := ((Below.refl _ _).alloc (Nat.le_refl _) _).trans (hb1.mono (by simp))
    clear hb1 B0 HL
    go_wp2
    refine bodyPost_ret (v := .agg #[.float .f64 l, .float .f64 l]) (by simp [results, Tryz.results94, go_sem, k0, k1]) rfl ?_
    exact ⟨rfl, (HB1.out.setCell (by simp) _).setCell (by simp) _⟩

theorem quotientF_main (x y : Nat) (sx sy : Bool) (s : Bool) (R q d u : Nat) (hx : FloatKind.f64.format.order x 0 = some (if sx then .lt else .gt)) (hy : FloatKind.f64.format.order y 0 = some (if sy then .lt else .gt)) (hm : double.div x y = some (wd s R)) (hR : ¬ R < 103582791429521408) (hR2 : R ≤ 9218868437227405312) (hq : double.fma (negW (wd s R)) y x = some q)
    (hA : Gives 141 #[.float .f64 (wd s R), .float .f64 (if sy then negW q else q)] d u) : Gives 94 #[.float .f64 x, .float .f64 y] d u := by
  intro w
  have g1 : ∀ w, (binOp .quo 65 (.float .f64 x) (.float .f64 y)).run Tryz.prog w = .ok (.float .f64 (wd s R)) w := fun w => run_float_arith w .quo _ .f64 x y _ hm
  have hF := @run_callFunc_extern Tryz.prog 144 _ MathFMA.fma Tryz.func144 (by kernel_rfl) (by kernel_rfl) (by kernel_rfl) (by kernel_rfl)
  have cF : ∀ w, (MathFMA.fma #[.float .f64 (negW (wd s R)), .float .f64 y, .float .f64 x]).run Tryz.prog w = .ok (.float .f64 q) w := fun w => c_fma w hq
  have cN : ∀ w, (Op.unary .neg (.float .f64 (wd s R))).run Tryz.prog w = .ok (.float .f64 (negW (wd s R))) w := fun w => run_neg_float w _
  have cQ : ∀ w, (Op.unary .neg (.float .f64 q)).run Tryz.prog w = .ok (.float .f64 (negW q)) w := fun w => run_neg_float w _
  have hL := isLost_any s R
  rw [decide_eq_false hR] at hL
  have HA : Hid (Gives 141 #[.float .f64 (wd s R), .float .f64 (if sy then negW q else q)] d u) := hA
  clear hm hq hA
  generalize negW (wd s R) = nb at *
  generalize negW q = nq at *
  generalize wd s R = b at *
  cases sx <;> cases sy
  · have hx' : FloatKind.f64.format.order x 0 = some .gt := hx
    have hy' : FloatKind.f64.format.order y 0 = some .gt := hy
    clear hx hy
    go_enter Tryz.func94, Tryz.ntmps94
    go_wp2_with fail
    refine Calls.mono (hL _ hR2) ?_
    rintro e w' ⟨rfl, rfl⟩
    go_wp2_with fail
    refine Calls.mono (HA.out _) ?_
    rintro e w1 ⟨rfl, hb1⟩
    have B0 := blk_below (blk_new w _) hb1
    obtain ⟨k0, k1, k2, k3⟩ := blk2 B0
    have HB1 : Hid (Below w.heap.size w w1) := ((Below.refl _ _).alloc (Nat.le_refl _) _).trans (hb1.mono (by simp))
    clear hb1 B0 HA
    go_wp2
    refine bodyPost_ret (v := .agg #[.float .f64 d, .float .f64 u]) (by simp [results, Tryz.results94, go_sem, k0, k1]) rfl ?_
    exact ⟨rfl, (HB1.out.setCell (by simp) _).setCell (by simp) _⟩
  · have hx' : FloatKind.f64.format.order x 0 = some .gt := hx
    have hy' : FloatKind.f64.format.order y 0 = some .lt := hy
    clear hx hy
    go_enter Tryz.func94, Tryz.ntmps94
    go_wp2_with fail
    refine Calls.mono (hL _ hR2) ?_
    rintro e w' ⟨rfl, rfl⟩
    go_wp2_with fail
    refine Calls.mono (HA.out _) ?_
    rintro e w1 ⟨rfl, hb1⟩
    have B0 := blk_below (blk_new w _) hb1
    obtain ⟨k0, k1, k2, k3⟩ := blk2 B0
    have HB1 : Hid (Below w.heap.size w w1) := ((Below.refl _ _).alloc (Nat.le_refl _) _).trans (hb1.mono (by simp))
    clear hb1 B0 HA
    go_wp2
    refine bodyPost_ret (v := .agg #[.float .f64 d, .float .f64 u]) (by simp [results, Tryz.results94, go_sem, k0, k1]) rfl ?_
    exact ⟨rfl, (HB1.out.setCell (by simp) _).setCell (by simp) _⟩
  · have hx' : FloatKind.f64.format.order x 0 = some .lt := hx
    have hy' : FloatKind.f64.format.order y 0 = some .gt := hy
    clear hx hy
    go_enter Tryz.func94, Tryz.ntmps94
    go_wp2_with fail
    refine Calls.mono (hL _ hR2) ?_
    rintro e w' ⟨rfl, rfl⟩
    go_wp2_with fail
    refine Calls.mono (HA.out _) ?_
    rintro e w1 ⟨rfl, hb1⟩
    have B0 := blk_below (blk_new w _) hb1
    obtain ⟨k0, k1, k2, k3⟩ := blk2 B0
    have HB1 : Hid (Below w.heap.size w w1) := ((Below.refl _ _).alloc (Nat.le_refl _) _).trans (hb1.mono (by simp))
    clear hb1 B0 HA
    go_wp2
    refine bodyPost_ret (v := .agg #[.float .f64 d, .float .f64 u]) (by simp [results, Tryz.results94, go_sem, k0, k1]) rfl ?_
    exact ⟨rfl, (HB1.out.setCell (by simp) _).setCell (by simp) _⟩
  · have hx' : FloatKind.f64.format.order x 0 = some .lt := hx
    have hy' : FloatKind.f64.format.order y 0 = some .lt := hy
    clear hx hy
    go_enter Tryz.func94, Tryz.ntmps94
    go_wp2_with fail
    refine Calls.mono (hL _ hR2) ?_
    rintro e w' ⟨rfl, rfl⟩
    go_wp2_with fail
    refine Calls.mono (HA.out _) ?_
    rintro e w1 ⟨rfl, hb1⟩
    have B0 := blk_below (blk_new w _) hb1
    obtain ⟨k0, k1, k2, k3⟩ := blk2 B0
    have HB1 : Hid (Below w.heap.size w w1) := ((Below.refl _ _).alloc (Nat.le_refl _) _).trans (hb1.mono (by simp))
    clear hb1 B0 HA
    go_wp2
    refine bodyPost_ret (v := .agg #[.float .f64 d, .float .f64 u]) (by simp [results, Tryz.results94, go_sem, k0, k1]) rfl ?_
    exact ⟨rfl, (HB1.out.setCell (by simp) _).setCell (by simp) _⟩

end Go.Proofs.YtonhpkigoplmaaaGreatDoor
namespace Go.Proofs.YtonhpkigoplmaaaGreatDoor
open Go.RowKit Go.Extern Ieee

/-- N is c at a power of two (then ex), or lies strictly between c and c + 1. -/
def MarkOf (c : Nat) (ex : Prop) (k N : Nat) : Prop := (ex ∧ N = c * 2 ^ k) ∨ (¬ ex ∧ c * 2 ^ k < N ∧ N < (c + 1) * 2 ^ k)

theorem MarkOf.ne {c : Nat} {ex : Prop} {k N : Nat} (h : MarkOf c ex k N) (hc : 4503599627370496 ≤ c) : N ≠ 0 := by
  have hp := Nat.two_pow_pos k
  rcases h with ⟨_, rfl⟩ | ⟨_, h1, _⟩
  · exact Nat.mul_ne_zero (by omega) (by omega)
  · omega

theorem MarkOf.endR {c : Nat} {ex : Prop} {k l N M : Nat} (h : MarkOf c ex k N) (g : MarkOf c ex l M) (hc : 4503599627370496 ≤ c) (s : Bool) (e f way : Int) (he : e + k = f + l) : endR s N e way = endR s M f way := by
  rcases h with ⟨x, rfl⟩ | ⟨x, h1, h2⟩
  · rcases g with ⟨_, rfl⟩ | ⟨y, _⟩
    · rw [endR_shift s (by omega), endR_shift s (by omega), he]
    · exact absurd x y
  · rcases g with ⟨y, _⟩ | ⟨_, g1, g2⟩
    · exact absurd y x
    · rw [sticky_end s hc h1 h2, sticky_end s hc g1 g2, he]

theorem MarkOf.posV {c : Nat} {ex : Prop} {k l N M : Nat} (h : MarkOf c ex k N) (g : MarkOf c ex l M) (hc : 4503599627370496 ≤ c) (s : Bool) (e f way : Int) (he : e + k = f + l) : posV (s, N, e) way = posV (s, M, f) way := by
  unfold Go.Proofs.YtonhpkigoplmaaaGreatDoor.posV
  rw [if_neg (h.ne hc), if_neg (g.ne hc)]
  simp only
  rw [h.endR g hc s e f way he]

theorem MarkOf.ends {c : Nat} {ex : Prop} {k l N M : Nat} (h : MarkOf c ex k N) (g : MarkOf c ex l M) (hc : 4503599627370496 ≤ c) {s : Bool} {e f : Int} {d u : Nat} (he : e + k = f + l) (hE : Ends (s, N, e) d u) : Ends (s, M, f) d u := by
  unfold Ends at *
  rw [← h.posV g hc s e f (-1) he, ← h.posV g hc s e f 1 he]
  exact hE

/-- The nearest float of a number of more than 53 bits is even. -/
theorem nearM_even {n : Nat} (h : 54 ≤ bl n) : nearM n % 2 = 0 := by
  unfold nearM
  rw [if_neg (by omega), show bl n - 53 = (bl n - 54) + 1 by omega, Nat.pow_succ, ← Nat.mul_assoc]
  omega

/-- The sign of an exact value against the nearest float, by the sign of the marked number against it. A: the exact value times B; N1 = 2 * c, or 2 * c + 1. -/
theorem mark_sign {A B c M N1 : Nat} (hB : 0 < B) (hM : M % 2 = 0) (h : (A = 2 * c * B ∧ N1 = 2 * c) ∨ (2 * c * B < A ∧ A < (2 * c + 2) * B ∧ N1 = 2 * c + 1)) : (N1 < M ↔ A < M * B) ∧ (N1 = M ↔ A = M * B) := by
  rcases h with ⟨rfl, rfl⟩ | ⟨h1, h2, rfl⟩
  · constructor
    · exact (Nat.mul_lt_mul_right hB).symm
    · exact (Nat.mul_right_cancel_iff hB).symm
  · rcases (show M ≤ 2 * c ∨ 2 * c + 2 ≤ M by omega) with h | h
    · have := Nat.mul_le_mul_right B h
      constructor
      · constructor <;> intro _ <;> omega
      · constructor <;> intro _ <;> omega
    · have := Nat.mul_le_mul_right B h
      constructor
      · constructor <;> intro _ <;> omega
      · constructor <;> intro _ <;> omega

/-- A quotient at two finenesses. -/
theorem quo_mark {m n c k : Nat} (hn : 0 < n) (hc : c = m / n) : MarkOf c (m % n = 0) (k + 1) (2 * (m * 2 ^ k / n) + if m * 2 ^ k % n = 0 then 0 else 1) := by
  have hp := Nat.two_pow_pos k
  have hd := Nat.div_add_mod m n
  have hl := Nat.mod_lt m hn
  have hd2 := Nat.div_add_mod (m * 2 ^ k) n
  have hl2 := Nat.mod_lt (m * 2 ^ k) hn
  rw [← hc] at hd
  rw [MarkOf, Nat.pow_succ]
  generalize 2 ^ k = g at *
  by_cases h0 : m % n = 0
  · left
    refine ⟨h0, ?_⟩
    rw [h0, Nat.add_zero] at hd
    have e : m * g = n * (c * g) := by rw [← hd, Nat.mul_assoc]
    rw [e, Nat.mul_mod_right, if_pos rfl, Nat.mul_div_cancel_left _ hn, Nat.add_zero, ← Nat.mul_assoc c, Nat.mul_comm]
  · right
    refine ⟨h0, ?_⟩
    have a1 : n * (c * g) < m * g := by
      rw [← Nat.mul_assoc]
      exact Nat.mul_lt_mul_of_pos_right (by omega) hp
    have a2 : m * g < n * ((c + 1) * g) := by
      rw [← Nat.mul_assoc]
      exact Nat.mul_lt_mul_of_pos_right (by rw [Nat.mul_add]; omega) hp
    generalize m * g / n = Q at *
    generalize m * g % n = r at *
    have b1 : c * g ≤ Q := by
      have : n * (c * g) < n * (Q + 1) := by rw [Nat.mul_add]; omega
      have := Nat.lt_of_mul_lt_mul_left this
      omega
    have b2 : Q < (c + 1) * g := by
      have : n * Q < n * ((c + 1) * g) := by omega
      exact Nat.lt_of_mul_lt_mul_left this
    have e1 : c * (g * 2) = 2 * (c * g) := by rw [← Nat.mul_assoc, Nat.mul_comm]
    have e2 : (c + 1) * (g * 2) = 2 * ((c + 1) * g) := by rw [← Nat.mul_assoc, Nat.mul_comm]
    rw [e1, e2]
    by_cases hr : r = 0
    · rw [if_pos hr]
      have : c * g ≠ Q := by
        rintro rfl
        omega
      omega
    · rw [if_neg hr]; omega
end Go.Proofs.YtonhpkigoplmaaaGreatDoor
