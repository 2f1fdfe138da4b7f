/-
  QuoQ, RootM, RootP, RefP, RefQ, OverM, RefO, RefR, RefS, RefT, RefU, RefV, RefW, RefX, RefY, ErrO, ErrP, CodeO.
-/
import Derived.Test.YtonhpkigoplmaaaGreatDoorF07
import Derived.Test.YtonhpkigoplmaaaGreatDoorF04
import Derived.Test.YtonhpkigoplmaaaGreatDoorF03
namespace Go.Proofs.YtonhpkigoplmaaaGreatDoor
open Go.RowKit Go.Extern Ieee

theorem markN_ne {s : Bool} {q : Nat} {e : Int} {b : Bool} (h : 2 * q + (if b then 0 else 1) ≠ 0) : markN s q e b = (s, 2 * q + (if b then 0 else 1), e - 1) := by
  unfold markN
  rw [decide_eq_true h, Bool.and_true]

theorem ite_decide (p : Prop) [Decidable p] : (if (decide p) = true then (0 : Nat) else 1) = if p then 0 else 1 := by
  by_cases h : p
  · rw [decide_eq_true h, if_pos rfl, if_pos h]
  · rw [decide_eq_false h, if_neg Bool.false_ne_true, if_neg h]

/-- The document's quotient is the same number, marked farther behind. -/
theorem quoN_mark {sx sy : Bool} {mx my : Nat} {ex ey : Int} (x1 : 4503599627370496 ≤ mx) (x2 : mx < 9007199254740992) (y1 : 4503599627370496 ≤ my) (y2 : my < 9007199254740992) :
    ∃ N, quoN (sx, mx, ex) (sy, my, ey) = ((sx ^^ sy), N, ex - ey - 55 - 59) ∧ MarkOf (mx * 2 ^ 54 / my) (mx * 2 ^ 54 % my = 0) 1 (q1 mx my) ∧ MarkOf (mx * 2 ^ 54 / my) (mx * 2 ^ 54 % my = 0) 60 N := by
  have h1 := quo_mark (m := mx * 2 ^ 54) (n := my) (k := 0) (by omega) rfl
  have h2 := quo_mark (m := mx * 2 ^ 54) (n := my) (k := 59) (by omega) rfl
  rw [Nat.pow_zero, Nat.mul_one] at h1
  rw [Nat.mul_assoc, ← Nat.pow_add] at h2
  obtain ⟨c1, c2⟩ := q1_bounds x1 x2 y1 y2
  have hne := h2.ne (by omega)
  refine ⟨_, ?_, h1, h2⟩
  unfold quoN
  simp only
  rw [bl53 y1 y2]
  have hne' : 2 * (mx * 2 ^ (60 + 53) / my) + (if (decide (mx * 2 ^ (60 + 53) % my = 0)) = true then 0 else 1) ≠ 0 := by
    rw [ite_decide]; exact hne
  rw [markN_ne hne', ite_decide]
  congr 2
  omega

theorem quo_plain {x y : Nat} {p q : Bool × Nat × Int} (hx : x < 18446744073709551616) (hy : y < 18446744073709551616) (px : plainN x = some p) (py : plainN y = some q) (hq0 : q.2.1 ≠ 0) :
    ∃ d u, Ends (quoN p q) d u ∧ Gives 94 #[.float .f64 x, .float .f64 y] d u := by
  by_cases hp0 : p.2.1 = 0
  · have ho := plain_zero_order hx px hp0
    refine ⟨0, 0, ends_zero ?_, quotientF_zero x y ho⟩
    unfold quoN markN
    simp only
    rw [hp0, Nat.zero_mul, Nat.zero_div, Nat.zero_mod]; rfl
  · obtain ⟨sx, mx, ex⟩ := p
    obtain ⟨sy, my, ey⟩ := q
    obtain ⟨rx, ox, x1, x2, x3, x4⟩ := plain_parts hx px hp0
    obtain ⟨ry, oy, y1, y2, y3, y4⟩ := plain_parts hy py hq0
    simp only at *
    obtain ⟨N, hN, k1, k2⟩ := quoN_mark (sx := sx) (sy := sy) (ex := ex) (ey := ey) x1 x2 y1 y2
    have hc : 4503599627370496 ≤ mx * 2 ^ 54 / my := by have := (q1_bounds x1 x2 y1 y2).1; omega
    have hn : q1 mx my ≠ 0 := k1.ne hc
    have hb := q1_bl x1 x2 y1 y2
    rw [hN]
    suffices h : ∃ d u, Ends ((sx ^^ sy), q1 mx my, ex - ey - 55) d u ∧ Gives 94 #[.float .f64 x, .float .f64 y] d u by
      obtain ⟨d, u, hE, hG⟩ := h
      exact ⟨d, u, k1.ends k2 hc (by omega) hE, hG⟩
    have hdiv := div_plain rx ry x1 x2 y1 y2
    have hrest := quo_rest rx ry x1 x2 y1 y2 x3 x4
    have hlost := quotientF_lost x y sx sy
    have hmain := quotientF_main x y sx sy
    obtain ⟨R, hR, hR2, hmid, htin, hhug⟩ := nearest_any (sx ^^ sy) (ex - ey - 55) hn
    rw [hR] at hdiv hrest
    have rb := rung_bounds (ex - ey - 55) hn
    have hup : -1021 ≤ ex - ey - 55 + bl (q1 mx my) → ex - ey - 55 + bl (q1 mx my) ≤ 1023 → rung (q1 mx my) (ex - ey - 55) ≤ R ∧ (R : Int) ≤ rung (q1 mx my) (ex - ey - 55) + 1 := by
      intro h1 h2
      have := hmid h1 h2
      split at this <;> omega
    have hneg : double.read (negW (wd (sx ^^ sy) R)) = (double.read (wd (sx ^^ sy) R)).opposite := read_negW (wd_lt (by omega))
    have hany : R < 9218868437227405312 → ∃ q o, double.fma (negW (wd (sx ^^ sy) R)) y x = some q ∧ FloatKind.f64.format.order (if sy then negW q else q) 0 = some o := by
      intro hlt
      obtain ⟨m', i', r1, _, _⟩ := read_vr (s := (sx ^^ sy)) (r := R) hlt
      rw [r1] at hneg
      obtain ⟨q, o, q1, q2⟩ := sum_write2 ((!(sx ^^ sy)) ^^ sy) sx (m' * my) mx (i' + ey) ex sy
      exact ⟨q, o, (fma_num hneg ry rx).trans q1, q2⟩
    by_cases hl : R < 103582791429521408
    · exact ⟨_, _, ends_tiny _ hn (by omega) (FR_tiny _ (by omega) (by omega)) (FR_tiny _ (by omega) (by omega)), hlost _ R ox oy hdiv hl⟩
    · by_cases he1 : ex - ey - 55 < -1022
      · obtain ⟨q, o, q1, q2⟩ := hany (by omega)
        obtain ⟨d, u, hd, hu, hG⟩ := around_tiny (sx ^^ sy) R _ o (by omega) (by omega) q2
        exact ⟨d, u, ends_tiny _ hn (by omega) hd hu, hmain _ R q d u ox oy hdiv hl hR2 q1 hG⟩
      · by_cases he2 : 940 < ex - ey - 55
        · by_cases hinf : R = 9218868437227405312
          · subst hinf
            rw [read_wd_inf] at hneg
            have hq : double.fma (negW (wd (sx ^^ sy) 9218868437227405312)) y x = some (wd ((!(sx ^^ sy)) ^^ sy) 9218868437227405312) := by
              unfold Format.fma
              rw [hneg, ry, rx]
              simp only [Datum.opposite, Datum.product]
              rw [if_neg (show ¬ my = 0 by omega)]
              cases sx <;> cases sy <;> rfl
            have ho : FloatKind.f64.format.order (if sy then negW (wd ((!(sx ^^ sy)) ^^ sy) 9218868437227405312) else wd ((!(sx ^^ sy)) ^^ sy) 9218868437227405312) 0 = some (if (sx ^^ sy) then .gt else .lt) := by
              rw [negW_wd (by omega)]
              cases sx <;> cases sy <;> rfl
            obtain ⟨d, u, hd, hu, hG⟩ := around_huge (sx ^^ sy) 9218868437227405312 _ _ (by omega) (by omega) ho (fun _ => rfl)
            exact ⟨d, u, ends_huge _ hn (by omega) hd hu, hmain _ _ _ d u ox oy hdiv hl hR2 hq hG⟩
          · obtain ⟨q, o, q1, q2⟩ := hany (by omega)
            obtain ⟨d, u, hd, hu, hG⟩ := around_huge (sx ^^ sy) R _ o (by omega) (by omega) q2 (fun h => absurd h hinf)
            exact ⟨d, u, ends_huge _ hn (by omega) hd hu, hmain _ R q d u ox oy hdiv hl hR2 q1 hG⟩
        · obtain ⟨q, q1', q2⟩ := hrest (by omega) (by omega)
          have hA : Gives 141 #[.float .f64 (double.nearest (sx ^^ sy) (q1 mx my) (ex - ey - 55)), .float .f64 (if sy then negW q else q)] _ _ := fun w => around_round (sx ^^ sy) (q1 mx my) (ex - ey - 55) _ w hn (by omega) (by omega) q2
          rw [hR] at hA
          have e1 := endR_bounds (sx ^^ sy) (n := q1 mx my) (ex - ey - 55) (-1)
          have e2 := endR_bounds (sx ^^ sy) (n := q1 mx my) (ex - ey - 55) 1
          exact ⟨_, _, ⟨FR_end _ (-1) hn (by omega) (by omega), FR_end _ 1 hn (by omega) (by omega)⟩, hmain _ R q _ _ ox oy hdiv hl hR2 q1' hA⟩
end Go.Proofs.YtonhpkigoplmaaaGreatDoor
namespace Go.Proofs.YtonhpkigoplmaaaGreatDoor
open Go.RowKit Go.Extern Ieee

theorem sq_lt {a b : Nat} : a * a < b * b ↔ a < b := Nat.mul_self_lt_mul_self_iff
theorem sq_le {a b : Nat} : a * a ≤ b * b ↔ a ≤ b := Nat.mul_self_le_mul_self_iff

theorem rootFrom_spec (n : Nat) : ∀ (todo root : Nat), root * root ≤ n → n < (root + 2 ^ todo) * (root + 2 ^ todo) → Datum.rootFrom n todo root * Datum.rootFrom n todo root ≤ n ∧ n < (Datum.rootFrom n todo root + 1) * (Datum.rootFrom n todo root + 1)
  | 0, root, h1, h2 => by
    rw [Nat.pow_zero] at h2
    exact ⟨h1, h2⟩
  | todo + 1, root, h1, h2 => by
    unfold Datum.rootFrom
    simp only [Nat.one_shiftLeft]
    by_cases h : (root + 2 ^ todo) * (root + 2 ^ todo) ≤ n
    · rw [if_pos h]
      refine rootFrom_spec n todo _ h ?_
      rwa [Nat.add_assoc, ← Nat.two_mul, Nat.mul_comm 2, ← Nat.pow_succ]
    · rw [if_neg h]
      exact rootFrom_spec n todo _ h1 (by omega)

/-- The whole root. -/
def isq (n : Nat) : Nat := Datum.rootFrom n (n.log2 / 2 + 1) 0

theorem isq_spec (n : Nat) : isq n * isq n ≤ n ∧ n < (isq n + 1) * (isq n + 1) := by
  apply rootFrom_spec
  · omega
  · rw [Nat.zero_add, ← Nat.pow_add]
    by_cases h0 : n = 0
    · subst h0; exact Nat.two_pow_pos _
    · have h1 := (bl_bounds (Nat.pos_of_ne_zero h0)).2.1
      rw [bl_log2 h0] at h1
      exact Nat.lt_of_lt_of_le h1 (pow_mono (by omega))

theorem isq_of {n c : Nat} (h1 : c * c ≤ n) (h2 : n < (c + 1) * (c + 1)) : isq n = c := by
  obtain ⟨a1, a2⟩ := isq_spec n
  have b1 := sq_lt.1 (Nat.lt_of_le_of_lt a1 h2)
  have b2 := sq_lt.1 (Nat.lt_of_le_of_lt h1 a2)
  omega

theorem sq_shift (c g : Nat) : c * g * (c * g) = c * c * (g * g) := by
  rw [Nat.mul_assoc, Nat.mul_assoc, Nat.mul_left_comm g]

theorem root_mark (n k : Nat) : MarkOf (isq n) (isq n * isq n = n) (k + 1) (2 * isq (n * 2 ^ (k + k)) + if isq (n * 2 ^ (k + k)) * isq (n * 2 ^ (k + k)) = n * 2 ^ (k + k) then 0 else 1) := by
  obtain ⟨a1, a2⟩ := isq_spec n
  have hp := Nat.two_pow_pos k
  rw [MarkOf, Nat.pow_add, Nat.pow_succ]
  generalize 2 ^ k = g at *
  have e0 : isq n * (g * 2) = 2 * (isq n * g) := by rw [← Nat.mul_assoc, Nat.mul_comm]
  have e2 : (isq n + 1) * (g * 2) = 2 * ((isq n + 1) * g) := by rw [← Nat.mul_assoc, Nat.mul_comm]
  have hgg : 0 < g * g := Nat.mul_pos hp hp
  rw [e0, e2]
  by_cases hx : isq n * isq n = n
  · left
    refine ⟨hx, ?_⟩
    have hq : isq (n * (g * g)) = isq n * g := by
      apply isq_of
      · rw [sq_shift, hx]; exact Nat.le_refl _
      · rw [show n * (g * g) = isq n * g * (isq n * g) by rw [sq_shift, hx]]
        exact sq_lt.2 (by omega)
    rw [hq, sq_shift, hx, if_pos rfl, Nat.add_zero]
  · right
    refine ⟨hx, ?_⟩
    obtain ⟨b1, b2⟩ := isq_spec (n * (g * g))
    have c1 : isq n * g * (isq n * g) < n * (g * g) := by
      rw [sq_shift]
      exact Nat.mul_lt_mul_of_pos_right (by omega) hgg
    have c2 : n * (g * g) < (isq n + 1) * g * ((isq n + 1) * g) := by
      rw [sq_shift]
      exact Nat.mul_lt_mul_of_pos_right a2 hgg
    have d1 := sq_lt.1 (Nat.lt_trans c1 b2)
    have d2 := sq_lt.1 (Nat.lt_of_le_of_lt b1 c2)
    by_cases hr : isq (n * (g * g)) * isq (n * (g * g)) = n * (g * g)
    · rw [if_pos hr]
      have : isq n * g ≠ isq (n * (g * g)) := by
        intro h
        rw [← h] at hr
        omega
      omega
    · rw [if_neg hr]; omega

/-- By how much a number is shifted ahead of its root. -/
def rk (k : Nat) (e : Int) : Nat := if (e - k) % 2 = 0 then k else k + 1

/-- What encloseref.rooted gives. -/
def rootN (x : Bool × Nat × Int) : Bool × Nat × Int :=
  markN false (isq (x.2.1 * 2 ^ rk 130 x.2.2)) ((x.2.2 - rk 130 x.2.2) / 2) (decide (isq (x.2.1 * 2 ^ rk 130 x.2.2) * isq (x.2.1 * 2 ^ rk 130 x.2.2) = x.2.1 * 2 ^ rk 130 x.2.2))

theorem rk_even (k : Nat) (e : Int) : (e - rk k e) % 2 = 0 := by
  unfold rk; split <;> omega

theorem rk_74 (e : Int) : rk 130 e = rk 56 e + 74 := by
  unfold rk; split <;> split <;> omega

/-- The root to 55 bits and a mark. -/
def r1 (m : Nat) (e : Int) : Nat := 2 * isq (m * 2 ^ rk 56 e) + if isq (m * 2 ^ rk 56 e) * isq (m * 2 ^ rk 56 e) = m * 2 ^ rk 56 e then 0 else 1

theorem r1_bounds {m : Nat} (e : Int) (h1 : 4503599627370496 ≤ m) (h2 : m < 9007199254740992) : 18014398509481984 ≤ isq (m * 2 ^ rk 56 e) ∧ isq (m * 2 ^ rk 56 e) < 36028797018963968 := by
  obtain ⟨a1, a2⟩ := isq_spec (m * 2 ^ rk 56 e)
  have k1 : 56 ≤ rk 56 e ∧ rk 56 e ≤ 57 := by unfold rk; split <;> omega
  have l1 : 2 ^ 52 * 2 ^ 56 ≤ m * 2 ^ rk 56 e := Nat.mul_le_mul (by rw [p52]; exact h1) (pow_mono k1.1)
  have l2 : m * 2 ^ rk 56 e < 2 ^ 53 * 2 ^ 57 := Nat.lt_of_lt_of_le (Nat.mul_lt_mul_of_pos_right (by rw [p53]; exact h2) (Nat.two_pow_pos _)) (Nat.mul_le_mul_left _ (pow_mono k1.2))
  have q1 : (2 : Nat) ^ 52 * 2 ^ 56 = 18014398509481984 * 18014398509481984 := by decide
  have q2 : (2 : Nat) ^ 53 * 2 ^ 57 = 36028797018963968 * 36028797018963968 := by decide
  rw [q1] at l1
  rw [q2] at l2
  have b1 := sq_lt.1 (Nat.lt_of_le_of_lt l1 a2)
  have b2 := sq_lt.1 (Nat.lt_of_le_of_lt a1 l2)
  omega

theorem r1_bl {m : Nat} (e : Int) (h1 : 4503599627370496 ≤ m) (h2 : m < 9007199254740992) : bl (r1 m e) = 56 := by
  obtain ⟨a1, a2⟩ := r1_bounds e h1 h2
  have p55 : (2 : Nat) ^ (56 - 1) = 36028797018963968 := by decide
  have p56 : (2 : Nat) ^ 56 = 72057594037927936 := by decide
  refine bl_of ?_ ?_ (by omega)
  · rw [p55]; unfold r1; omega
  · rw [p56]; unfold r1; split <;> omega

theorem sqrt_plain {x : Nat} {mx : Nat} {ex : Int} (rx : double.read x = .number false mx ex) (x1 : 4503599627370496 ≤ mx) (x2 : mx < 9007199254740992) :
    double.sqrt x = some (double.nearest false (r1 mx ex) ((ex - rk 56 ex) / 2 - 1)) := by
  have l1 := bl_log2 (n := mx) (by omega)
  rw [bl53 x1 x2] at l1
  have hfb : double.fractionBits = 52 := rfl
  unfold Format.sqrt
  rw [rx]
  simp only [Datum.root, hfb]
  rw [if_neg (by omega), if_neg Bool.false_ne_true, show 2 * (52 + 2) - mx.log2 = 56 by omega]
  have hk : 56 + ((ex - ((56 : Nat) : Int)) % 2).toNat = rk 56 ex := by
    unfold rk; split <;> omega
  rw [hk, Nat.shiftLeft_eq]
  simp only [Option.map_some, Format.write]
  change some (double.nearest false (2 * isq (mx * 2 ^ rk 56 ex) + (isq (mx * 2 ^ rk 56 ex) * isq (mx * 2 ^ rk 56 ex) != mx * 2 ^ rk 56 ex).toNat) _) = _
  have e2 : 2 * isq (mx * 2 ^ rk 56 ex) + (isq (mx * 2 ^ rk 56 ex) * isq (mx * 2 ^ rk 56 ex) != mx * 2 ^ rk 56 ex).toNat = r1 mx ex := by
    unfold r1
    by_cases h : isq (mx * 2 ^ rk 56 ex) * isq (mx * 2 ^ rk 56 ex) = mx * 2 ^ rk 56 ex
    · rw [h, if_pos rfl, bne_self_eq_false]; rfl
    · rw [if_neg h, (bne_iff_ne).2 h]; rfl
  rw [e2]

theorem root_sign {m : Nat} (e : Int) (h1 : 4503599627370496 ≤ m) (h2 : m < 9007199254740992) :
    (r1 m e < nearM (r1 m e) ↔ m * 2 ^ (rk 56 e + 2) < nearM (r1 m e) * nearM (r1 m e)) ∧ (r1 m e = nearM (r1 m e) ↔ m * 2 ^ (rk 56 e + 2) = nearM (r1 m e) * nearM (r1 m e)) := by
  have hev := nearM_even (n := r1 m e) (by rw [r1_bl e h1 h2]; omega)
  obtain ⟨a1, a2⟩ := isq_spec (m * 2 ^ rk 56 e)
  have e4 : m * 2 ^ (rk 56 e + 2) = 4 * (m * 2 ^ rk 56 e) := by
    rw [Nat.pow_add, ← Nat.mul_assoc, Nat.mul_comm]
  rw [e4]
  have s1 : (2 * isq (m * 2 ^ rk 56 e)) * (2 * isq (m * 2 ^ rk 56 e)) = 4 * (isq (m * 2 ^ rk 56 e) * isq (m * 2 ^ rk 56 e)) := by
    rw [Nat.mul_mul_mul_comm]
  have s2 : (2 * isq (m * 2 ^ rk 56 e) + 2) * (2 * isq (m * 2 ^ rk 56 e) + 2) = 4 * ((isq (m * 2 ^ rk 56 e) + 1) * (isq (m * 2 ^ rk 56 e) + 1)) := by
    rw [show 2 * isq (m * 2 ^ rk 56 e) + 2 = 2 * (isq (m * 2 ^ rk 56 e) + 1) by omega, Nat.mul_mul_mul_comm]
  generalize hM : nearM (r1 m e) = M at *
  unfold r1
  generalize isq (m * 2 ^ rk 56 e) = c at *
  generalize m * 2 ^ rk 56 e = n at *
  by_cases hx : c * c = n
  · rw [if_pos hx, Nat.add_zero]
    rw [← hx, ← s1]
    exact ⟨sq_lt.symm, Nat.mul_self_inj.symm⟩
  · rw [if_neg hx]
    rcases (show M ≤ 2 * c ∨ 2 * c + 2 ≤ M by omega) with h | h
    · have := sq_le.2 h
      constructor <;> constructor <;> intro _ <;> omega
    · have := sq_le.2 h
      constructor <;> constructor <;> intro _ <;> omega
end Go.Proofs.YtonhpkigoplmaaaGreatDoor
namespace Go.Proofs.YtonhpkigoplmaaaGreatDoor
open Go.RowKit Go.Extern Ieee

theorem rootN_mark {mx : Nat} {ex : Int} (x1 : 4503599627370496 ≤ mx) (x2 : mx < 9007199254740992) :
    ∃ N c P, rootN (false, mx, ex) = (false, N, (ex - rk 56 ex) / 2 - 1 - 37) ∧ 4503599627370496 ≤ c ∧ MarkOf c P 1 (r1 mx ex) ∧ MarkOf c P 38 N := by
  have h1 := root_mark (mx * 2 ^ rk 56 ex) 0
  have h2 := root_mark (mx * 2 ^ rk 56 ex) 37
  rw [Nat.add_zero, Nat.pow_zero, Nat.mul_one] at h1
  rw [Nat.mul_assoc, ← Nat.pow_add, show rk 56 ex + (37 + 37) = rk 130 ex by rw [rk_74]] at h2
  have hc := r1_bounds ex x1 x2
  have hne := h2.ne (by omega)
  refine ⟨_, _, _, ?_, by omega, h1, h2⟩
  unfold rootN
  simp only
  have hne' : 2 * isq (mx * 2 ^ rk 130 ex) + (if (decide (isq (mx * 2 ^ rk 130 ex) * isq (mx * 2 ^ rk 130 ex) = mx * 2 ^ rk 130 ex)) = true then 0 else 1) ≠ 0 := by
    rw [ite_decide]; exact hne
  rw [markN_ne hne', ite_decide]
  congr 2
  have := rk_even 56 ex
  have := rk_even 130 ex
  have := rk_74 ex
  omega

/-- The remainder. -/
theorem root_rest {x : Nat} {mx : Nat} {ex : Int} (rx : double.read x = .number false mx ex) (x1 : 4503599627370496 ≤ mx) (x2 : mx < 9007199254740992) (x3 : -952 ≤ ex) (x4 : ex ≤ 848) :
    ∃ q, double.fma (negW (double.nearest false (r1 mx ex) ((ex - rk 56 ex) / 2 - 1))) (double.nearest false (r1 mx ex) ((ex - rk 56 ex) / 2 - 1)) x = some q ∧ FloatKind.f64.format.order q 0 = some (side false (r1 mx ex)) := by
  have hbl := r1_bl ex x1 x2
  have hev := rk_even 56 ex
  have k1 : 56 ≤ rk 56 ex ∧ rk 56 ex ≤ 57 := by unfold rk; split <;> omega
  have hsign := root_sign ex x1 x2
  generalize hk : rk 56 ex = k at *
  have hn : r1 mx ex ≠ 0 := by
    intro h
    rw [h] at hbl
    have : bl 0 = 0 := rfl
    omega
  have hN0 : nearM (r1 mx ex) ≠ 0 := (nearM_facts hn).1
  have hNb : bl (nearM (r1 mx ex)) ≤ bl (r1 mx ex) + 1 := (nearM_facts hn).2.2.2
  have hside := near_side ((r1 mx ex : Nat) : Int)
  generalize r1 mx ex = N at *
  obtain ⟨a1, a2, a3⟩ := sg_sign (s := false) hn
  have hI : nearI (sg false N) = sg false (nearM N) := by
    unfold nearI
    rw [a1, a2]
  obtain ⟨b1, b2, b3⟩ := sg_sign (s := false) hN0
  have hfd := nearest_fd (s := false) ((ex - k) / 2 - 1) hn
  have hnf := nearI_fd (e := (ex - k) / 2 - 1) (z := sg false N) a3 (by omega) (by rw [a2]; omega)
  rw [hI] at hnf
  rw [hfd, ← hnf]
  have hrep : Rep (sg false (nearM N)) := by rw [← hI]; exact nearI_rep _
  obtain ⟨t, m, p, h1, h2, h3, h4⟩ := read_fd (e := (ex - k) / 2 - 1) (z := sg false (nearM N)) ⟨by omega, by rw [b2]; omega⟩ hrep
  have ht : t = false := by rw [h4 b3, b1]
  subst ht
  have hlt := (fd_lt ((ex - k) / 2 - 1) (sg false (nearM N))).1
  have hM1 : Means (ex - (k + 2 : Nat)) (-sg false (nearM N) * sg false (nearM N)) ((!false) ^^ false) (m * m) (p + p) := by
    have := mul_means h2.opp h2
    rwa [show (ex - (k : Int)) / 2 - 1 + ((ex - (k : Int)) / 2 - 1) = ex - ((k + 2 : Nat) : Int) by omega] at this
  have hM2 : Means (ex - (k + 2 : Nat)) (sg false mx * ((2 ^ (k + 2) : Nat) : Int)) false mx ex := means_low (show Means ex (sg false mx) false mx ex from fun c _ _ => (sg_mul _ _ _).symm) (k + 2)
  have htot : -sg false (nearM N) * sg false (nearM N) + sg false mx * ((2 ^ (k + 2) : Nat) : Int) = ((mx * 2 ^ (k + 2) : Nat) : Int) - ((nearM N * nearM N : Nat) : Int) := by
    have e1 : ∀ n, sg false n = (n : Int) := fun n => rfl
    rw [e1, e1, Int.neg_mul, ← Int.natCast_mul, ← Int.natCast_mul]
    omega
  have hsz : (-sg false (nearM N) * sg false (nearM N) + sg false mx * ((2 ^ (k + 2) : Nat) : Int)).natAbs < 2 ^ 115 := by
    rw [htot]
    have u1 : mx * 2 ^ (k + 2) < 2 ^ 114 := by
      have : mx * 2 ^ (k + 2) < 2 ^ 53 * 2 ^ (k + 2) := Nat.mul_lt_mul_of_pos_right (by rw [p53]; exact x2) (Nat.two_pow_pos _)
      rw [← Nat.pow_add] at this
      exact Nat.lt_of_lt_of_le this (pow_mono (by omega))
    have u2 : nearM N * nearM N < 2 ^ 114 := by
      have v1 : nearM N < 2 ^ 57 := Nat.lt_of_lt_of_le (bl_bounds (Nat.pos_of_ne_zero hN0)).2.1 (pow_mono (by omega))
      have : nearM N * nearM N < 2 ^ 57 * 2 ^ 57 := Nat.mul_lt_mul'' v1 v1
      rwa [← Nat.pow_add] at this
    have u3 : (2 : Nat) ^ 115 = 2 * 2 ^ 114 := by rw [Nat.pow_succ 2 114, Nat.mul_comm]
    generalize (2 : Nat) ^ 114 = g at *
    generalize mx * 2 ^ (k + 2) = a at *
    generalize nearM N * nearM N = b at *
    omega
  have hbt := bl_le hsz
  have hF : Fits (ex - (k + 2 : Nat)) (-sg false (nearM N) * sg false (nearM N) + sg false mx * ((2 ^ (k + 2) : Nat) : Int)) := ⟨by omega, by omega⟩
  have hsum := sum_means hM1 hM2 hF (by intro _; rfl)
  have hord : FloatKind.f64.format.order _ 0 = some (sgnO _) := ord_fd hF (by omega)
  clear hF hbt hsz
  generalize -sg false (nearM N) * sg false (nearM N) + sg false mx * ((2 ^ (k + 2) : Nat) : Int) = T at *
  refine ⟨fd (ex - (k + 2 : Nat)) T, ?_, ?_⟩
  · have hr := read_negW hlt
    rw [h1] at hr
    rw [fma_num hr h1 rx]
    exact hsum
  · rw [hord, htot]
    have a1' : decide (((N : Nat) : Int) < 0) = false := decide_eq_false (by omega)
    have hI' : nearI ((N : Nat) : Int) = ((nearM N : Nat) : Int) := hI
    rw [a1', Int.natAbs_natCast, hI'] at hside
    rw [← hside]
    congr 1
    have := sgnO_sg (s := false) (x := ((mx * 2 ^ (k + 2) : Nat) : Int) - ((nearM N * nearM N : Nat) : Int)) (y := (N : Int) - (nearM N : Nat)) (by omega) (by omega)
    rw [if_neg Bool.false_ne_true, if_neg Bool.false_ne_true] at this
    exact this

theorem root_plain {x : Nat} {p : Bool × Nat × Int} (hx : x < 18446744073709551616) (hxz : x ≠ 9223372036854775808) (px : plainN x = some p) (hs : p.1 = false) :
    ∃ d u, Ends (rootN p) d u ∧ Gives 95 #[.float .f64 x] d u := by
  by_cases hp0 : p.2.1 = 0
  · have hx0 : x = 0 := by
      obtain ⟨s, n, e⟩ := p
      simp only at hp0
      rcases plain_read hx px with ⟨_, _, h, _⟩ | ⟨h, _⟩
      · omega
      · omega
    subst hx0
    have h1 : double.sqrt 0 = some 0 := rfl
    have h2 : double.fma (negW 0) 0 0 = some 0 := rfl
    refine ⟨0, 0, ends_zero ?_, rootF_any 0 0 0 0 0 h1 h2 (fun w => aroundF_eq 0 0 w rfl)⟩
    have hi : isq 0 = 0 := isq_of (by omega) (by omega)
    unfold rootN markN
    simp only
    rw [hp0, Nat.zero_mul, hi]; rfl
  · obtain ⟨sx, mx, ex⟩ := p
    obtain ⟨rx, ox, x1, x2, x3, x4⟩ := plain_parts hx px hp0
    simp only at *
    subst hs
    obtain ⟨N, c, P, hN, hc, k1, k2⟩ := rootN_mark (ex := ex) x1 x2
    have hn : r1 mx ex ≠ 0 := k1.ne hc
    have hb := r1_bl ex x1 x2
    have hk : 56 ≤ rk 56 ex ∧ rk 56 ex ≤ 57 := by unfold rk; split <;> omega
    rw [hN]
    obtain ⟨q, q1, q2⟩ := root_rest rx x1 x2 x3 x4
    have hsq := sqrt_plain rx x1 x2
    have rb := rung_bounds ((ex - rk 56 ex) / 2 - 1) hn
    have e1 := endR_bounds false (n := r1 mx ex) ((ex - rk 56 ex) / 2 - 1) (-1)
    have e2 := endR_bounds false (n := r1 mx ex) ((ex - rk 56 ex) / 2 - 1) 1
    have hE : Ends (false, r1 mx ex, (ex - rk 56 ex) / 2 - 1) (wd false (endR false (r1 mx ex) ((ex - rk 56 ex) / 2 - 1) (-1)).toNat) (wd false (endR false (r1 mx ex) ((ex - rk 56 ex) / 2 - 1) 1).toNat) := ⟨FR_end _ (-1) hn (by omega) (by omega), FR_end _ 1 hn (by omega) (by omega)⟩
    have hA : Gives 141 #[.float .f64 (double.nearest false (r1 mx ex) ((ex - rk 56 ex) / 2 - 1)), .float .f64 q] (wd false (endR false (r1 mx ex) ((ex - rk 56 ex) / 2 - 1) (-1)).toNat) (wd false (endR false (r1 mx ex) ((ex - rk 56 ex) / 2 - 1) 1).toNat) := fun w => around_round false (r1 mx ex) ((ex - rk 56 ex) / 2 - 1) _ w hn (by omega) (by omega) q2
    have hE2 := k1.ends k2 hc (f := (ex - rk 56 ex) / 2 - 1 - 37) (by omega) hE
    exact ⟨_, _, hE2, rootF_any x _ q _ _ hsq q1 hA⟩
end Go.Proofs.YtonhpkigoplmaaaGreatDoor
namespace Go.Proofs.YtonhpkigoplmaaaGreatDoor
open Go.RowKit

end Go.Proofs.YtonhpkigoplmaaaGreatDoor
namespace Go.Proofs.YtonhpkigoplmaaaGreatDoor
open Go.RowKit

end Go.Proofs.YtonhpkigoplmaaaGreatDoor
namespace Go.Proofs.YtonhpkigoplmaaaGreatDoor
open Go.RowKit

end Go.Proofs.YtonhpkigoplmaaaGreatDoor
namespace Go.Proofs.YtonhpkigoplmaaaGreatDoor
open Go.RowKit

end Go.Proofs.YtonhpkigoplmaaaGreatDoor
namespace Go.Proofs.YtonhpkigoplmaaaGreatDoor
open Go.RowKit

end Go.Proofs.YtonhpkigoplmaaaGreatDoor
namespace Go.Proofs.YtonhpkigoplmaaaGreatDoor
open Go.RowKit

end Go.Proofs.YtonhpkigoplmaaaGreatDoor
namespace Go.Proofs.YtonhpkigoplmaaaGreatDoor
open Go.RowKit

end Go.Proofs.YtonhpkigoplmaaaGreatDoor
namespace Go.Proofs.YtonhpkigoplmaaaGreatDoor
open Go.RowKit

theorem blk_store6 {W : World} {g : Nat} {a b c d e f a' b' c' d' e' f' : Value} {t : TypeId} (h : W.heap[g]? = some (.cells #[a', b', c', d', e', f'] t (0, 0))) :
    ((((((W.setCell ⟨g, 0, none⟩ a).setCell ⟨g, 1, none⟩ b).setCell ⟨g, 2, none⟩ c).setCell ⟨g, 3, none⟩ d).setCell ⟨g, 4, none⟩ e).setCell ⟨g, 5, none⟩ f).heap[g]? = some (.cells #[a, b, c, d, e, f] t (0, 0)) := by
  simp [World.setCell, Array.getElem?_modify, h]

theorem blk6 {W : World} {g : Nat} {a b c d e f : Value} {t : TypeId} (h : W.heap[g]? = some (.cells #[a, b, c, d, e, f] t (0, 0))) :
    W.cell? ⟨g, 0, none⟩ = some a ∧ W.cell? ⟨g, 1, none⟩ = some b ∧ W.cell? ⟨g, 2, none⟩ = some c ∧ W.cell? ⟨g, 3, none⟩ = some d ∧ W.cell? ⟨g, 4, none⟩ = some e ∧ W.cell? ⟨g, 5, none⟩ = some f ∧ W.frozen? ⟨g, 0, none⟩ = false ∧ W.frozen? ⟨g, 1, none⟩ = false ∧ W.frozen? ⟨g, 2, none⟩ = false ∧ W.frozen? ⟨g, 3, none⟩ = false ∧ W.frozen? ⟨g, 4, none⟩ = false ∧ W.frozen? ⟨g, 5, none⟩ = false :=
  ⟨by simp [World.cell?, h], by simp [World.cell?, h], by simp [World.cell?, h], by simp [World.cell?, h], by simp [World.cell?, h], by simp [World.cell?, h], by simp [World.frozen?, h], by simp [World.frozen?, h], by simp [World.frozen?, h], by simp [World.frozen?, h], by simp [World.frozen?, h], by simp [World.frozen?, h]⟩

/-- A plain float's number; 0 for what is none. -/
def plT (b : Nat) : Bool × Nat × Int := (plainN b).getD (false, 0, 0)

/-- A value of type Ival: two numbers. -/
def IvV (w : World) (v : Value) (x y : Bool × Nat × Int) : Prop :=
  ∃ ao la ca bo lb cb, v = .agg #[.bool x.1, .slice ao la ca, .int .i64 x.2.2, .bool y.1, .slice bo lb cb, .int .i64 y.2.2] ∧ la = (digits x.2.1).length ∧ lb = (digits y.2.1).length ∧ NatV w (.slice ao la ca) x.2.1 ∧ NatV w (.slice bo lb cb) y.2.1

theorem posW_lt {b : Nat} (h : b < 18446744073709551616) : posW b < 18446744073709551616 := by unfold posW; split <;> omega

theorem makeN_lt1 {lo hi : Nat} (h : lo < 18446744073709551616) : (makeN lo hi).1 < 18446744073709551616 := by
  unfold makeN
  split
  · show (0 : Nat) < _
    omega
  · split
    · show (0 : Nat) < _
      omega
    · exact posW_lt h

theorem makeN_lt2 {lo hi : Nat} (h : hi < 18446744073709551616) : (makeN lo hi).2.1 < 18446744073709551616 := by
  unfold makeN
  split
  · show (0 : Nat) < _
    omega
  · split
    · show (0 : Nat) < _
      omega
    · exact posW_lt h

set_option maxHeartbeats 1000000 in
set_option maxRecDepth 100000 in
theorem refMade_any (lo hi : Nat) (w : World) (h1 : lo < 18446744073709551616) (h2 : hi < 18446744073709551616) :
    Calls Tryz.prog 60 #[.agg #[.int .u64 (lo : Int), .int .u64 (hi : Int)]] w fun e w' => ∃ v, e = .returned v ∧ IvV w' v (plT (makeN lo hi).1) (plT (makeN lo hi).2.1) ∧ Below w.heap.size w w' := by
  have HM : Hid (∀ w, Calls Tryz.prog 27 #[.agg #[.int .u64 (lo : Int), .int .u64 (hi : Int)]] w fun e w' => e = .returned (.tuple #[.agg #[.int .u64 ((makeN lo hi).1 : Int), .int .u64 ((makeN lo hi).2.1 : Int)], .int .i64 ((makeN lo hi).2.2 : Int)]) ∧ Below w.heap.size w w') := fun w => refMake_any lo hi w h1 h2
  have hm1 : (makeN lo hi).1 < 18446744073709551616 := makeN_lt1 h1
  have hm2 : (makeN lo hi).2.1 < 18446744073709551616 := makeN_lt2 h2
  have HP1 : Hid (∀ w, Calls Tryz.prog 57 #[.int .u64 ((makeN lo hi).1 : Int)] w fun ev w' => ∃ x ok, ev = .returned (.tuple #[x, .bool ok]) ∧ NumV w' x (plT (makeN lo hi).1).1 (plT (makeN lo hi).1).2.1 (plT (makeN lo hi).1).2.2 ∧ Below w.heap.size w w') := fun w => (plain_any _ w hm1).mono (fun ev w' h => by obtain ⟨x, h1, h2, h3⟩ := h; exact ⟨x, _, h1, h2, h3⟩)
  have HP2 : Hid (∀ w, Calls Tryz.prog 57 #[.int .u64 ((makeN lo hi).2.1 : Int)] w fun ev w' => ∃ x ok, ev = .returned (.tuple #[x, .bool ok]) ∧ NumV w' x (plT (makeN lo hi).2.1).1 (plT (makeN lo hi).2.1).2.1 (plT (makeN lo hi).2.1).2.2 ∧ Below w.heap.size w w') := fun w => (plain_any _ w hm2).mono (fun ev w' h => by obtain ⟨x, h1, h2, h3⟩ := h; exact ⟨x, _, h1, h2, h3⟩)
  clear h1 h2 hm1 hm2
  go_enter Tryz.func60, Tryz.ntmps60
  go_wp2_with fail
  have B1 := blk_new (w.alloc (Obj.cells #[.int .u64 (lo : Int), .int .u64 (hi : Int)] 28)) (Obj.cells #[.bool false, .slice none 0 0, .int .i64 0, .bool false, .slice none 0 0, .int .i64 0] 98)
  have hW : Below w.heap.size w ((w.alloc (Obj.cells #[.int .u64 (lo : Int), .int .u64 (hi : Int)] 28)).alloc (Obj.cells #[.bool false, .slice none 0 0, .int .i64 0, .bool false, .slice none 0 0, .int .i64 0] 98)) := ((Below.refl _ _).alloc (Nat.le_refl _) _).alloc (by simp) _
  simp only [World.size_alloc] at B1
  generalize ((w.alloc (Obj.cells #[.int .u64 (lo : Int), .int .u64 (hi : Int)] 28)).alloc (Obj.cells #[.bool false, .slice none 0 0, .int .i64 0, .bool false, .slice none 0 0, .int .i64 0] 98)) = W2 at *
  refine Calls.mono (HM.out _) ?_
  rintro ev w1 ⟨rfl, hb1⟩
  have hW1 : Below w.heap.size w w1 := hW.trans (hb1.mono hW.size)
  have C1 := blk_below B1 hb1
  clear hb1 hW B1
  have C0 := blk_new w1 (Obj.cells #[.int .u64 ((makeN lo hi).1 : Int), .int .u64 ((makeN lo hi).2.1 : Int)] 28)
  have C1' := blk_old C1 (Obj.cells #[.int .u64 ((makeN lo hi).1 : Int), .int .u64 ((makeN lo hi).2.1 : Int)] 28)
  have hW1' := hW1.alloc hW1.size (Obj.cells #[.int .u64 ((makeN lo hi).1 : Int), .int .u64 ((makeN lo hi).2.1 : Int)] 28)
  go_wp2_with fail
  generalize (w1.alloc (Obj.cells #[.int .u64 ((makeN lo hi).1 : Int), .int .u64 ((makeN lo hi).2.1 : Int)] 28)) = W3 at *
  refine Calls.mono (HP1.out _) ?_
  rintro ev w2 ⟨x, ok1, rfl, ⟨ao, la, ca, rfl, hla, hna⟩, hb2⟩
  have HLA : Hid (la = (digits (plT (makeN lo hi).1).2.1).length) := hla
  have hW2 : Below w.heap.size w w2 := hW1'.trans (hb2.mono hW1'.size)
  have D0 := blk_below C0 hb2
  have D1 := blk_below C1' hb2
  obtain ⟨m0, m1, -, -⟩ := blk2 D0
  have hlt := lt_of_cell m1
  have E1 := blk_old D1 (Obj.cells #[.bool (plT (makeN lo hi).1).1, .slice ao la ca, .int .i64 (plT (makeN lo hi).1).2.2] 92)
  have E2 := blk_new w2 (Obj.cells #[.bool (plT (makeN lo hi).1).1, .slice ao la ca, .int .i64 (plT (makeN lo hi).1).2.2] 92)
  have hW3 := hW2.alloc hW2.size (Obj.cells #[.bool (plT (makeN lo hi).1).1, .slice ao la ca, .int .i64 (plT (makeN lo hi).1).2.2] 92)
  have hna3 := hna.below ((Below.refl _ w2).alloc (Nat.le_refl _) (Obj.cells #[.bool (plT (makeN lo hi).1).1, .slice ao la ca, .int .i64 (plT (makeN lo hi).1).2.2] 92)) (Nat.le_refl _)
  clear hb2 hW1' C0 C1' C1 hW1 m0 hla D1
  go_wp2_with fail
  clear hlt m1 D0 hW2 hna
  generalize (w2.alloc (Obj.cells #[.bool (plT (makeN lo hi).1).1, .slice ao la ca, .int .i64 (plT (makeN lo hi).1).2.2] 92)) = W4 at *
  refine Calls.mono (HP2.out _) ?_
  rintro ev w5 ⟨x, ok2, rfl, ⟨bo, lb, cb, rfl, hlb, hnb⟩, hb5⟩
  have HLB : Hid (lb = (digits (plT (makeN lo hi).2.1).2.1).length) := hlb
  have hW5 : Below w.heap.size w w5 := hW3.trans (hb5.mono hW3.size)
  have F1 := blk_below E1 hb5
  have F2 := blk_below E2 hb5
  have hna5 := hna3.below hb5 (Nat.le_refl _)
  obtain ⟨m0, m1, m2, -, -, -⟩ := blk3 F2
  have hlt := lt_of_cell m0
  have hlt2 := lt_of_row F1
  have S1 := blk_store6 (a := .bool (plT (makeN lo hi).1).1) (b := .slice ao la ca) (c := .int .i64 (plT (makeN lo hi).1).2.2) (d := .bool (plT (makeN lo hi).2.1).1) (e := .slice bo lb cb) (f := .int .i64 (plT (makeN lo hi).2.1).2.2) F1
  obtain ⟨q0, q1, q2, q3, q4, q5, -, -, -, -, -, -⟩ := blk6 (blk_old S1 (Obj.cells #[.bool (plT (makeN lo hi).2.1).1, .slice bo lb cb, .int .i64 (plT (makeN lo hi).2.1).2.2] 92))
  obtain ⟨k0, k1, k2, k3, k4, k5, f0, f1, f2, f3, f4, f5⟩ := blk6 F1
  have b0 : BoxT w5 (w.heap.size + 1) 98 := BoxT.of F1
  have K := ((((((Keeps.refl w5).set (j := 0) (u := .bool (plT (makeN lo hi).1).1) b0 (by decide)).set (j := 1) (u := .slice ao la ca) b0.set (by decide)).set (j := 2) (u := .int .i64 (plT (makeN lo hi).1).2.2) b0.set.set (by decide)).set (j := 3) (u := .bool (plT (makeN lo hi).2.1).1) b0.set.set.set (by decide)).set (j := 4) (u := .slice bo lb cb) b0.set.set.set.set (by decide)).set (j := 5) (u := .int .i64 (plT (makeN lo hi).2.1).2.2) b0.set.set.set.set.set (by decide)
  have K2 := K.trans (Keeps.alloc ((((((w5.setCell ⟨w.heap.size + 1, 0, none⟩ (.bool (plT (makeN lo hi).1).1)).setCell ⟨w.heap.size + 1, 1, none⟩ (.slice ao la ca)).setCell ⟨w.heap.size + 1, 2, none⟩ (.int .i64 (plT (makeN lo hi).1).2.2)).setCell ⟨w.heap.size + 1, 3, none⟩ (.bool (plT (makeN lo hi).2.1).1)).setCell ⟨w.heap.size + 1, 4, none⟩ (.slice bo lb cb)).setCell ⟨w.heap.size + 1, 5, none⟩ (.int .i64 (plT (makeN lo hi).2.1).2.2)) (Obj.cells #[.bool (plT (makeN lo hi).2.1).1, .slice bo lb cb, .int .i64 (plT (makeN lo hi).2.1).2.2] 92))
  have HNA : Hid (NatV (((((((w5.setCell ⟨w.heap.size + 1, 0, none⟩ (.bool (plT (makeN lo hi).1).1)).setCell ⟨w.heap.size + 1, 1, none⟩ (.slice ao la ca)).setCell ⟨w.heap.size + 1, 2, none⟩ (.int .i64 (plT (makeN lo hi).1).2.2)).setCell ⟨w.heap.size + 1, 3, none⟩ (.bool (plT (makeN lo hi).2.1).1)).setCell ⟨w.heap.size + 1, 4, none⟩ (.slice bo lb cb)).setCell ⟨w.heap.size + 1, 5, none⟩ (.int .i64 (plT (makeN lo hi).2.1).2.2)).alloc (Obj.cells #[.bool (plT (makeN lo hi).2.1).1, .slice bo lb cb, .int .i64 (plT (makeN lo hi).2.1).2.2] 92)) (.slice ao la ca) (plT (makeN lo hi).1).2.1) := hna5.keeps K2
  have HNB : Hid (NatV (((((((w5.setCell ⟨w.heap.size + 1, 0, none⟩ (.bool (plT (makeN lo hi).1).1)).setCell ⟨w.heap.size + 1, 1, none⟩ (.slice ao la ca)).setCell ⟨w.heap.size + 1, 2, none⟩ (.int .i64 (plT (makeN lo hi).1).2.2)).setCell ⟨w.heap.size + 1, 3, none⟩ (.bool (plT (makeN lo hi).2.1).1)).setCell ⟨w.heap.size + 1, 4, none⟩ (.slice bo lb cb)).setCell ⟨w.heap.size + 1, 5, none⟩ (.int .i64 (plT (makeN lo hi).2.1).2.2)).alloc (Obj.cells #[.bool (plT (makeN lo hi).2.1).1, .slice bo lb cb, .int .i64 (plT (makeN lo hi).2.1).2.2] 92)) (.slice bo lb cb) (plT (makeN lo hi).2.1).2.1) := hnb.keeps K2
  have HW6 : Hid (Below w.heap.size w (((((((w5.setCell ⟨w.heap.size + 1, 0, none⟩ (.bool (plT (makeN lo hi).1).1)).setCell ⟨w.heap.size + 1, 1, none⟩ (.slice ao la ca)).setCell ⟨w.heap.size + 1, 2, none⟩ (.int .i64 (plT (makeN lo hi).1).2.2)).setCell ⟨w.heap.size + 1, 3, none⟩ (.bool (plT (makeN lo hi).2.1).1)).setCell ⟨w.heap.size + 1, 4, none⟩ (.slice bo lb cb)).setCell ⟨w.heap.size + 1, 5, none⟩ (.int .i64 (plT (makeN lo hi).2.1).2.2)).alloc (Obj.cells #[.bool (plT (makeN lo hi).2.1).1, .slice bo lb cb, .int .i64 (plT (makeN lo hi).2.1).2.2] 92))) := ((((((hW5.setCell (by simp) _).setCell (by simp) _).setCell (by simp) _).setCell (by simp) _).setCell (by simp) _).setCell (by simp) _).alloc (by have := hW5.size; simp; omega) _
  clear hb5 hW3 E1 E2 hna3 hlb F1 F2 hW5 hna5 hnb HP1 HP2 HM K K2 b0 S1
  go_wp2_with fail
  refine bodyPost_ret (v := .agg #[.bool (plT (makeN lo hi).1).1, .slice ao la ca, .int .i64 (plT (makeN lo hi).1).2.2, .bool (plT (makeN lo hi).2.1).1, .slice bo lb cb, .int .i64 (plT (makeN lo hi).2.1).2.2]) (by simp [results, Tryz.results60, go_sem, q0, q1, q2, q3, q4, q5]) rfl ?_
  exact ⟨_, rfl, ⟨_, _, _, _, _, _, rfl, HLA.out, HLB.out, HNA.out, HNB.out⟩, HW6.out⟩
end Go.Proofs.YtonhpkigoplmaaaGreatDoor
namespace Go.Proofs.YtonhpkigoplmaaaGreatDoor
open Go.RowKit

/-- Does an interval hold 0? -/
def holdsT (x y : Bool × Nat × Int) : Bool := decide (sgnI x.1 x.2.1 ≤ 0) && decide (0 ≤ sgnI y.1 y.2.1)

/-- What encloseref.named gives. -/
def nameT (r : Nat × Nat × Nat) (s : ByteArray) : Nat × Nat × Nat × ByteArray := if r.2.2 = 0 then (r.1, r.2.1, 0, ⟨#[]⟩) else (0, 0, r.2.2, s)

end Go.Proofs.YtonhpkigoplmaaaGreatDoor
namespace Go.Proofs.YtonhpkigoplmaaaGreatDoor
open Go.RowKit

def lessT (x y : Bool × Nat × Int) : Bool := lessN x.1 x.2.1 x.2.2 y.1 y.2.1 y.2.2

/-- Which one is the least, the greatest of the first ones. -/
def ixLo (x : Nat → Bool × Nat × Int) : Nat → Nat
  | 0 => 0
  | i + 1 => if lessT (x (i + 1)) (x (ixLo x i)) then i + 1 else ixLo x i
def ixHi (x : Nat → Bool × Nat × Int) : Nat → Nat
  | 0 => 0
  | i + 1 => if lessT (x (ixHi x i)) (x (i + 1)) then i + 1 else ixHi x i

end Go.Proofs.YtonhpkigoplmaaaGreatDoor
namespace Go.Proofs.YtonhpkigoplmaaaGreatDoor
open Go.RowKit

/-- One of four. -/
def pick4 {α : Type} (a b c d : α) : Nat → α
  | 0 => a
  | 1 => b
  | 2 => c
  | _ => d

end Go.Proofs.YtonhpkigoplmaaaGreatDoor
namespace Go.Proofs.YtonhpkigoplmaaaGreatDoor
open Go.RowKit

/-- What encloseref.meet gives. -/
def meetLo (a1 b1 : Bool × Nat × Int) : Bool × Nat × Int := if lessT a1 b1 then b1 else a1
def meetHi (a2 b2 : Bool × Nat × Int) : Bool × Nat × Int := if lessT b2 a2 then b2 else a2
def meetT (a1 a2 b1 b2 : Bool × Nat × Int) : Nat × Nat × Nat := if lessT (meetHi a2 b2) (meetLo a1 b1) then (0, 0, 6) else ((aroundN (meetLo a1 b1) (meetHi a2 b2)).1, (aroundN (meetLo a1 b1) (meetHi a2 b2)).2.1, 0)

end Go.Proofs.YtonhpkigoplmaaaGreatDoor
namespace Go.Proofs.YtonhpkigoplmaaaGreatDoor
open Go.RowKit Go.Extern.Stop Go.Stop Go.Extern

theorem c_typeOfOE (v : Value) (w : World) : (ReflectliteType.typeOf #[.iface 136 v]).run Tryz.prog w = .ok (.iface 216 (.agg #[.pointer (some ⟨11, 136, none⟩)])) w := by kernel_rfl
theorem c_assignableOE (w : World) : (ReflectliteType.relation "AssignableTo" ReflectliteType.assignableTo #[.agg #[.pointer (some ⟨11, 136, none⟩)], .iface 216 (.agg #[.pointer (some ⟨11, 136, none⟩)])]).run Tryz.prog w = .ok (.bool true) w := by kernel_rfl
theorem c_valueOfOE (e : Addr) (w : World) : (ReflectliteValue.unpack (.iface 136 (.pointer (some e)))).run Tryz.prog w
    = .ok (.agg #[.pointer (some ⟨11, 136, none⟩), .pointer (some ⟨w.heap.size, 0, none⟩), .int .u64 150]) (w.alloc (.cells #[.pointer (some e)] 136)) := by kernel_rfl
theorem c_elemTPP (w : World) : (Rtype.elem? 141).run Tryz.prog w = .ok (some 136) w := by kernel_rfl
theorem c_mkOE (p : Addr) (w : World) : (ReflectliteValue.mk 136 p ReflectliteValue.flagAddr).run Tryz.prog w = .ok (.agg #[.pointer (some ⟨11, 136, none⟩), .pointer (some p), .int .u64 406]) w := by kernel_rfl
theorem c_elemVPP (a p : Addr) (W : World) (ha : W.cell? a = some (.pointer (some p))) :
    (ReflectliteValue.method (ReflectliteValue.valueError "reflectlite.Value.Elem" 0) ReflectliteValue.elem #[.agg #[.pointer (some ⟨11, 141, none⟩), .pointer (some a), .int .u64 150]]).run Tryz.prog W
      = .ok (.agg #[.pointer (some ⟨11, 136, none⟩), .pointer (some p), .int .u64 406]) W := by
  rw [rlm]
  simp only [Sem.run_bind, c_partsPP, Result.andThen]
  simp [ReflectliteValue.elem, loadVar, isAgg, underlying, Tryz.underlying141, ha, Result.andThen, c_elemTPP, c_mkOE]
theorem c_partsOEa (a : Addr) (w : World) : (ReflectliteValue.parts (.agg #[.pointer (some ⟨11, 136, none⟩), .pointer (some a), .int .u64 406])).run Tryz.prog w = .ok (some (136, a, 406)) w := by kernel_rfl
theorem c_partsOE (a : Addr) (w : World) : (ReflectliteValue.parts (.agg #[.pointer (some ⟨11, 136, none⟩), .pointer (some a), .int .u64 150])).run Tryz.prog w = .ok (some (136, a, 150)) w := by kernel_rfl
theorem c_directOE (w : World) : (Rtype.directlyAssignable 136 136).run Tryz.prog w = .ok true w := by kernel_rfl
theorem c_setOE (ta b e : Addr) (old : Value) (W : World) (hb : W.cell? b = some (.pointer (some e))) (ht : W.cell? ta = some old) (hf : W.frozen? ta = false) :
    (ReflectliteValue.set #[.agg #[.pointer (some ⟨11, 136, none⟩), .pointer (some ta), .int .u64 406], .agg #[.pointer (some ⟨11, 136, none⟩), .pointer (some b), .int .u64 150]]).run Tryz.prog W
      = .ok (.tuple #[]) (W.setCell ta (.pointer (some e))) := by
  unfold ReflectliteValue.set
  delta ReflectliteValue.set.match_3
  simp only [Array.getLit, List.size_toArray, List.length_cons, List.length_nil, Nat.zero_add, Nat.reduceAdd, dite_true, List.getElem_toArray, List.getElem_cons_zero, List.getElem_cons_succ]
  simp only [Sem.run_bind, c_partsOEa, c_partsOE, Result.andThen]
  simp [ReflectliteValue.flagAddr, loadVar, isAgg, underlying, Tryz.underlying136, hb, Result.andThen, c_directOE, storeVar, Value.cells, storeCells, Addr.add]
  rw [run_store Tryz.prog W ta _ _ (by rfl)]
  simp [ht, hf]

set_option maxHeartbeats 4000000 in
/-- errors.As(x, &o), x an *OpError: true; o is x. -/
theorem as_hit (e t : Addr) (old : Value) (w : World) (hg : w.cell? ⟨9, 0, none⟩ = some (.iface 216 (.agg #[.pointer (some ⟨11, 70, none⟩)]))) (ht0 : w.cell? t = some old) (hf0 : w.frozen? t = false) :
    Calls Tryz.prog 96 #[.iface 136 (.pointer (some e)), .iface 141 (.pointer (some t))] w fun ev w' => ev = .returned (.bool true) ∧ ∃ w1, Below w.heap.size w w1 ∧ w' = w1.setCell t (.pointer (some e)) := by
  have h6 := @run_callFunc_extern Tryz.prog 146 _ (fun args => ReflectliteValue.unpack (args.getD 0 (.tuple #[]))) Tryz.func146 (by kernel_rfl) (by kernel_rfl) (by kernel_rfl) (by kernel_rfl)
  have h7 := @run_callFunc_extern Tryz.prog 147 _ (ReflectliteValue.methodAny (ReflectliteValue.valueError "reflectlite.Value.Type" 0) (fun t _ _ _ => ReflectliteType.toType t)) Tryz.func147 (by kernel_rfl) (by kernel_rfl) (by kernel_rfl) (by kernel_rfl)
  have h8 := @run_callFunc_extern Tryz.prog 148 _ (ReflectliteValue.method (ReflectliteValue.valueError "reflectlite.Value.IsNil" 0) ReflectliteValue.isNil) Tryz.func148 (by kernel_rfl) (by kernel_rfl) (by kernel_rfl) (by kernel_rfl)
  have h27 := @run_callFunc_extern Tryz.prog 197 _ (ReflectliteType.abiMethod fun t => do pure (.int .u8 (← Rtype.kind t))) Tryz.func197 (by kernel_rfl) (by kernel_rfl) (by kernel_rfl) (by kernel_rfl)
  have h37 := @run_callFunc_extern Tryz.prog 207 _ (ReflectliteType.method ReflectliteType.elem) Tryz.func207 (by kernel_rfl) (by kernel_rfl) (by kernel_rfl) (by kernel_rfl)
  have h38 := @run_callFunc_extern Tryz.prog 208 _ (ReflectliteType.relation "Implements" ReflectliteType.implements_) Tryz.func208 (by kernel_rfl) (by kernel_rfl) (by kernel_rfl) (by kernel_rfl)
  have h10 := @run_callFunc_extern Tryz.prog 150 _ ReflectliteType.typeOf Tryz.func150 (by kernel_rfl) (by kernel_rfl) (by kernel_rfl) (by kernel_rfl)
  have h35 := @run_callFunc_extern Tryz.prog 205 _ (ReflectliteType.relation "AssignableTo" ReflectliteType.assignableTo) Tryz.func205 (by kernel_rfl) (by kernel_rfl) (by kernel_rfl) (by kernel_rfl)
  have h11 := @run_callFunc_extern Tryz.prog 175 _ (ReflectliteValue.method (ReflectliteValue.valueError "reflectlite.Value.Elem" 0) ReflectliteValue.elem) Tryz.func175 (by kernel_rfl) (by kernel_rfl) (by kernel_rfl) (by kernel_rfl)
  have h12 := @run_callFunc_extern Tryz.prog 176 _ ReflectliteValue.set Tryz.func176 (by kernel_rfl) (by kernel_rfl) (by kernel_rfl) (by kernel_rfl)
  have tO := c_typeOfOE
  have mA := c_methodAssignableTo
  have a25 := c_assignableOE
  have v25 := c_valueOfOE
  have f6 := c_valueOfPP
  have f7 := c_typePP
  have mK := c_methodKind
  have mE := c_methodElem
  have mI := c_methodImplements
  have k27 := c_kindPP
  have k25 := c_kindPE
  have e27 := c_elemPP
  have i25 := c_implementsPE
  have n8 := c_isNilPP ⟨w.heap.size, 0, none⟩ t ((w.alloc (.cells #[.pointer (some t)] 141)).alloc (.cells #[.pointer (some ⟨11, 141, none⟩), .pointer (some ⟨w.heap.size, 0, none⟩), .int .u64 150] 186)) (by simp)
  have hlt := lt_of_cell hg
  have hg2 : ((w.alloc (.cells #[.pointer (some t)] 141)).alloc (.cells #[.pointer (some ⟨11, 141, none⟩), .pointer (some ⟨w.heap.size, 0, none⟩), .int .u64 150] 186)).cell? ⟨9, 0, none⟩ = some (.iface 216 (.agg #[.pointer (some ⟨11, 70, none⟩)])) := by
    rw [World.cell?_alloc_lt _ _ ⟨9, 0, none⟩ (by simp at hlt ⊢; omega), World.cell?_alloc_lt _ _ ⟨9, 0, none⟩ hlt]; exact hg
  have htl := lt_of_cell ht0
  have el := c_elemVPP ⟨w.heap.size, 0, none⟩ t (((w.alloc (.cells #[.pointer (some t)] 141)).alloc (.cells #[.pointer (some ⟨11, 141, none⟩), .pointer (some ⟨w.heap.size, 0, none⟩), .int .u64 150] 186)).alloc (.cells #[.pointer (some ⟨11, 141, none⟩), .pointer (some ⟨w.heap.size, 0, none⟩), .int .u64 150] 186)) (by rw [World.cell?_alloc_lt _ _ ⟨w.heap.size, 0, none⟩ (by simp; omega)]; simp)
  have st := c_setOE t ⟨w.heap.size + 1 + 1 + 1, 0, none⟩ e old ((((w.alloc (.cells #[.pointer (some t)] 141)).alloc (.cells #[.pointer (some ⟨11, 141, none⟩), .pointer (some ⟨w.heap.size, 0, none⟩), .int .u64 150] 186)).alloc (.cells #[.pointer (some ⟨11, 141, none⟩), .pointer (some ⟨w.heap.size, 0, none⟩), .int .u64 150] 186)).alloc (.cells #[.pointer (some e)] 136))
    (by rw [World.cell?_alloc_at _ _ _ _ (by simp)]; rfl)
    (by rw [World.cell?_alloc_lt _ _ t (by simp; omega), World.cell?_alloc_lt _ _ t (by simp; omega), World.cell?_alloc_lt _ _ t (by simp; omega), World.cell?_alloc_lt _ _ t htl]; exact ht0)
    (by rw [World.frozen?_alloc_old _ _ t (by simp; omega), World.frozen?_alloc_old _ _ t (by simp; omega), World.frozen?_alloc_old _ _ t (by simp; omega), World.frozen?_alloc_old _ _ t (Nat.ne_of_lt htl)]; exact hf0)
  go_enter Tryz.func96, Tryz.ntmps96
  go_wp2
  refine wp_loop_rounds 1 ?_
  rw [rounds_succ]
  go_wp2
  go_ret
  exact ⟨rfl, _, ((((Below.refl _ _).alloc (Nat.le_refl _) _).alloc (by simp) _).alloc (by simp; omega) _).alloc (by simp; omega) _, rfl⟩
end Go.Proofs.YtonhpkigoplmaaaGreatDoor
namespace Go.Proofs.YtonhpkigoplmaaaGreatDoor
open Go.RowKit Go.Extern.Stop Go.Stop Go.Extern

theorem c_methodUnwrap (p : Addr) (w : World) : (Go.method 363 136 (.pointer (some p)) "Unwrap").run Tryz.prog w = .ok (97, .pointer (some p)) w := by kernel_rfl
theorem c_noIsOE (v : Value) (xT : TypeId) (w : World) : (Instr.typeAssert (.iface 136 v) xT 226 true).run Tryz.prog w = .ok (.tuple #[.nilIface, .bool false]) w := run_typeAssert_lacksB Tryz.underlying226 (by kernel_rfl) (by kernel_rfl) v xT w
theorem c_unwrapOE (v : Value) (xT : TypeId) (w : World) : (Instr.typeAssert (.iface 136 v) xT 223 true).run Tryz.prog w = .ok (.tuple #[.iface 136 v, .bool true]) w := run_typeAssert_hasB Tryz.underlying223 (by kernel_rfl) v xT w

theorem unwrap_any (b : Nat) (s : ByteArray) (e : Value) (w : World) (h : w.heap[b]? = some (.cells #[.string s, e] 138 (0, 0))) : Calls Tryz.prog 97 #[.pointer (some ⟨b, 0, none⟩)] w fun ev w' => ev = .returned e ∧ w' = w := by
  have hc : w.cell? ⟨b, 1, none⟩ = some e := by simp [World.cell?, h]
  go_enter Tryz.func97, Tryz.ntmps97
  go_wp2
  go_ret
  exact ⟨rfl, rfl⟩

/-- errors.Is(x, y), x an *OpError that holds y. -/
theorem is_wrap_same (b : Nat) (s : ByteArray) (a : Addr) (w : World) (h : w.heap[b]? = some (.cells #[.string s, .iface 229 (.pointer (some a))] 138 (0, 0))) :
    Calls Tryz.prog 98 #[.iface 136 (.pointer (some ⟨b, 0, none⟩)), .iface 229 (.pointer (some a))] w fun e w' => e = .returned (.bool true) ∧ w' = w := by
  obtain ⟨i, hi, hcmp⟩ := Option.map_eq_some_iff.1 c_compES
  obtain ⟨j, hj, hjs⟩ := Option.map_eq_some_iff.1 c_sizeES
  have h8 := @run_callFunc_extern Tryz.prog 150 _ Extern.ReflectliteType.typeOf Tryz.func150 (by kernel_rfl) (by kernel_rfl) (by kernel_rfl) (by kernel_rfl)
  have h32 := @run_callFunc_extern Tryz.prog 206 _ (Extern.ReflectliteType.method cmpEntry) Tryz.func206 (by kernel_rfl) (by kernel_rfl) (by kernel_rfl) (by kernel_rfl)
  have tT := c_typeOfES
  have cT := c_comparable
  have mR := c_methodComparable
  have mU := c_methodUnwrap ⟨b, 0, none⟩
  have nI := c_noIsOE
  have uO := c_unwrapOE
  have hne := run_eql_iface_types (P := Tryz.prog) 136 229 (.pointer (some ⟨b, 0, none⟩)) (.pointer (some a)) Tryz.underlying70 (by decide)
  have heq := run_eql_iface_ptr_same (P := Tryz.prog) w a Tryz.underlying70 Tryz.underlying229 hi hcmp hj
  have HU : Hid (∀ w, w.heap[b]? = some (.cells #[.string s, .iface 229 (.pointer (some a))] 138 (0, 0)) → Calls Tryz.prog 97 #[.pointer (some ⟨b, 0, none⟩)] w fun ev w' => ev = .returned (.iface 229 (.pointer (some a))) ∧ w' = w) := fun w h => unwrap_any b s _ w h
  have H : Hid (w.heap[b]? = some (.cells #[.string s, .iface 229 (.pointer (some a))] 138 (0, 0))) := h
  clear h
  go_enter Tryz.func98, Tryz.ntmps98
  go_wp2
  refine wp_loop_rounds 2 ?_
  rw [rounds_succ]
  go_wp2_with fail
  refine Calls.mono (HU.out _ H.out) ?_
  rintro e w' ⟨rfl, rfl⟩
  go_wp2_with fail
  rw [rounds_succ]
  go_wp2
  go_ret
  exact ⟨rfl, rfl⟩

/-- errors.Is(x, y), x an *OpError that holds another one. -/
theorem is_wrap_other (b : Nat) (s : ByteArray) (a c : Addr) (ca cb : Array Value) (ta tb : TypeId) (w : World) (hac : a ≠ c) (ha : w.heap[a.block]? = some (.cells ca ta (0, 0))) (hb : w.heap[c.block]? = some (.cells cb tb (0, 0))) (h : w.heap[b]? = some (.cells #[.string s, .iface 229 (.pointer (some a))] 138 (0, 0))) :
    Calls Tryz.prog 98 #[.iface 136 (.pointer (some ⟨b, 0, none⟩)), .iface 229 (.pointer (some c))] w fun e w' => e = .returned (.bool false) ∧ w' = w := by
  obtain ⟨i, hi, hcmp⟩ := Option.map_eq_some_iff.1 c_compES
  obtain ⟨j, hj, hjs⟩ := Option.map_eq_some_iff.1 c_sizeES
  have h8 := @run_callFunc_extern Tryz.prog 150 _ Extern.ReflectliteType.typeOf Tryz.func150 (by kernel_rfl) (by kernel_rfl) (by kernel_rfl) (by kernel_rfl)
  have h32 := @run_callFunc_extern Tryz.prog 206 _ (Extern.ReflectliteType.method cmpEntry) Tryz.func206 (by kernel_rfl) (by kernel_rfl) (by kernel_rfl) (by kernel_rfl)
  have tT := c_typeOfES
  have cT := c_comparable
  have mR := c_methodComparable
  have mU := c_methodUnwrap ⟨b, 0, none⟩
  have nI := c_noIsOE
  have uO := c_unwrapOE
  have hne := run_eql_iface_types (P := Tryz.prog) 136 229 (.pointer (some ⟨b, 0, none⟩)) (.pointer (some c)) Tryz.underlying70 (by decide)
  have nE := c_noIsES
  have uE := c_noUnwrapES
  have vE := c_noUnwrapsES
  have heq := run_eql_iface_ptr_other (P := Tryz.prog) w Tryz.underlying70 Tryz.underlying229 hi hcmp hj (by rw [hjs]; decide) hac ha hb
  clear ha hb
  have HU : Hid (∀ w, w.heap[b]? = some (.cells #[.string s, .iface 229 (.pointer (some a))] 138 (0, 0)) → Calls Tryz.prog 97 #[.pointer (some ⟨b, 0, none⟩)] w fun ev w' => ev = .returned (.iface 229 (.pointer (some a))) ∧ w' = w) := fun w h => unwrap_any b s _ w h
  have H : Hid (w.heap[b]? = some (.cells #[.string s, .iface 229 (.pointer (some a))] 138 (0, 0))) := h
  clear h
  go_enter Tryz.func98, Tryz.ntmps98
  go_wp2
  refine wp_loop_rounds 2 ?_
  rw [rounds_succ]
  go_wp2_with fail
  refine Calls.mono (HU.out _ H.out) ?_
  rintro e w' ⟨rfl, rfl⟩
  go_wp2_with fail
  rw [rounds_succ]
  go_wp2
  go_ret
  exact ⟨rfl, rfl⟩
end Go.Proofs.YtonhpkigoplmaaaGreatDoor
namespace Go.Proofs.YtonhpkigoplmaaaGreatDoor
open Go.RowKit Go.Extern.Stop Go.Stop Go.Extern

set_option maxRecDepth 100000 in
set_option maxHeartbeats 4000000 in
theorem code_op (A : Nat → Addr) (w : World) (b i : Nat) (s : ByteArray) (hi : i < 9) (hS : Sents A w) (h : w.heap[b]? = some (.cells #[.string s, .iface 229 (.pointer (some (A i)))] 138 (0, 0))) :
    Calls Tryz.prog 49 #[.iface 136 (.pointer (some ⟨b, 0, none⟩))] w fun e w' => e = .returned (.tuple #[.int .i64 (i + 1 : Nat), .string s]) ∧ Below w.heap.size w w' := by
  obtain ⟨i', hi', hcmp⟩ := Option.map_eq_some_iff.1 c_compES
  obtain ⟨j', hj', hjs⟩ := Option.map_eq_some_iff.1 c_sizeES
  have hneq : ∀ w, (binOp .neq 70 (.iface 229 (.pointer (some (A i)))) (.iface 229 (.pointer (some (A i))))).run Tryz.prog w = .ok (.bool false) w := by
    intro w
    simp only [binOp]
    simp [Op.equal, Op.maxDepth, run_equalIn_iface_ptr_same w 9998 (A i) Tryz.underlying70 Tryz.underlying229 hi' hcmp hj']
  clear hi' hj' hcmp hjs
  go_enter Tryz.func49, Tryz.ntmps49
  go_wp2_with fail
  refine (as_hit _ _ (.pointer none) _ (hS.alloc _).ty (by simp) (by simp)).mono ?_
  rintro e w0 ⟨rfl, w1', hb0, rfl⟩
  have hbA : Below w.heap.size w (w1'.setCell ⟨w.heap.size, 0, none⟩ (.pointer (some ⟨b, 0, none⟩))) := (((Below.refl _ _).alloc (Nat.le_refl _) _).trans (hb0.mono (by simp))).setCell (by simp) _
  have k0 : (w1'.setCell ⟨w.heap.size, 0, none⟩ (.pointer (some ⟨b, 0, none⟩))).cell? ⟨w.heap.size, 0, none⟩ = some (.pointer (some ⟨b, 0, none⟩)) := by
    have := blk_below (blk_new w _) hb0
    simp [World.cell?, World.setCell, Array.getElem?_modify, this]
  have h2 : (w1'.setCell ⟨w.heap.size, 0, none⟩ (.pointer (some ⟨b, 0, none⟩))).heap[b]? = some (.cells #[.string s, .iface 229 (.pointer (some (A i)))] 138 (0, 0)) := by
    rw [hbA.block _ (lt_of_row h)]; exact h
  have hS1 := hS.below hbA (Nat.le_refl _)
  have hb := hbA
  clear hb0 hbA h
  generalize w1'.setCell ⟨w.heap.size, 0, none⟩ (.pointer (some ⟨b, 0, none⟩)) = w1 at *
  have k1 : w1.cell? ⟨b, 0, none⟩ = some (.string s) := by simp [World.cell?, h2]
  have k2 : w1.cell? ⟨b, 1, none⟩ = some (.iface 229 (.pointer (some (A i)))) := by simp [World.cell?, h2]
  go_wp2_with fail
  have H2 : Hid (w1.heap[b]? = some (.cells #[.string s, .iface 229 (.pointer (some (A i)))] 138 (0, 0))) := h2
  have HS1 : Hid (Sents A w1) := hS1
  have HB : Hid (Below w.heap.size w w1) := hb
  clear h2 hS1 hb hS
  go_region_held3 (fun W => W.cell? ⟨w.heap.size, 0, none⟩ = some (.pointer (some ⟨b, 0, none⟩)) ∧ W.cell? ⟨b, 1, none⟩ = some (.iface 229 (.pointer (some (A i))))) (first | (go_keep; done) | (refine ⟨?_, ?_⟩ <;> first | (go_keep; done) | assumption))
    (first | (go_at_call 97; refine (unwrap_any b s _ _ (show (w1.drew).heap[b]? = _ from H2.out)).mono ?_; rintro e w3 ⟨rfl, rfl⟩))
  have hS1 : Sents A w1.drew := HS1.out.below (Below.refl _ _).drew (Nat.le_refl _)
  have hb : Below w.heap.size w w1.drew := HB.out.drew
  have h2 : w1.drew.heap[b]? = some (.cells #[.string s, .iface 229 (.pointer (some (A i)))] 138 (0, 0)) := H2.out
  clear HS1 HB H2 k0 k1 k2 hneq
  generalize w1.drew = w1 at *
  have c0 : w1.cell? ⟨3, 0, none⟩ = some (.iface 229 (.pointer (some (A 0)))) := hS1.cell 0 (by omega)
  have c1 : w1.cell? ⟨4, 0, none⟩ = some (.iface 229 (.pointer (some (A 1)))) := hS1.cell 1 (by omega)
  have c2 : w1.cell? ⟨5, 0, none⟩ = some (.iface 229 (.pointer (some (A 2)))) := hS1.cell 2 (by omega)
  have c3 : w1.cell? ⟨1, 0, none⟩ = some (.iface 229 (.pointer (some (A 3)))) := hS1.cell 3 (by omega)
  have c4 : w1.cell? ⟨2, 0, none⟩ = some (.iface 229 (.pointer (some (A 4)))) := hS1.cell 4 (by omega)
  have c5 : w1.cell? ⟨0, 0, none⟩ = some (.iface 229 (.pointer (some (A 5)))) := hS1.cell 5 (by omega)
  have c6 : w1.cell? ⟨6, 0, none⟩ = some (.iface 229 (.pointer (some (A 6)))) := hS1.cell 6 (by omega)
  have c7 : w1.cell? ⟨7, 0, none⟩ = some (.iface 229 (.pointer (some (A 7)))) := hS1.cell 7 (by omega)
  have c8 : w1.cell? ⟨8, 0, none⟩ = some (.iface 229 (.pointer (some (A 8)))) := hS1.cell 8 (by omega)
  go_wp2_with fail
  have hS2 := hS1.alloc (Obj.cells #[Value.iface 229 (Value.pointer (some (A 0))), Value.iface 229 (Value.pointer (some (A 1))), Value.iface 229 (Value.pointer (some (A 2))), Value.iface 229 (Value.pointer (some (A 3))), Value.iface 229 (Value.pointer (some (A 4))), Value.iface 229 (Value.pointer (some (A 5))), Value.iface 229 (Value.pointer (some (A 6))), Value.iface 229 (Value.pointer (some (A 7))), Value.iface 229 (Value.pointer (some (A 8)))] 70)
  have hb2 := hb.alloc hb.size (Obj.cells #[Value.iface 229 (Value.pointer (some (A 0))), Value.iface 229 (Value.pointer (some (A 1))), Value.iface 229 (Value.pointer (some (A 2))), Value.iface 229 (Value.pointer (some (A 3))), Value.iface 229 (Value.pointer (some (A 4))), Value.iface 229 (Value.pointer (some (A 5))), Value.iface 229 (Value.pointer (some (A 6))), Value.iface 229 (Value.pointer (some (A 7))), Value.iface 229 (Value.pointer (some (A 8)))] 70)
  have hl : ∀ k, k < 9 → (w1.alloc (Obj.cells #[Value.iface 229 (Value.pointer (some (A 0))), Value.iface 229 (Value.pointer (some (A 1))), Value.iface 229 (Value.pointer (some (A 2))), Value.iface 229 (Value.pointer (some (A 3))), Value.iface 229 (Value.pointer (some (A 4))), Value.iface 229 (Value.pointer (some (A 5))), Value.iface 229 (Value.pointer (some (A 6))), Value.iface 229 (Value.pointer (some (A 7))), Value.iface 229 (Value.pointer (some (A 8)))] 70)).cell? ⟨w1.heap.size, k, none⟩ = some (.iface 229 (.pointer (some (A k)))) := by
    intro k hk
    rcases (show k = 0 ∨ k = 1 ∨ k = 2 ∨ k = 3 ∨ k = 4 ∨ k = 5 ∨ k = 6 ∨ k = 7 ∨ k = 8 by omega) with rfl | rfl | rfl | rfl | rfl | rfl | rfl | rfl | rfl <;> simp
  have H3 : Hid ((w1.alloc (Obj.cells #[Value.iface 229 (Value.pointer (some (A 0))), Value.iface 229 (Value.pointer (some (A 1))), Value.iface 229 (Value.pointer (some (A 2))), Value.iface 229 (Value.pointer (some (A 3))), Value.iface 229 (Value.pointer (some (A 4))), Value.iface 229 (Value.pointer (some (A 5))), Value.iface 229 (Value.pointer (some (A 6))), Value.iface 229 (Value.pointer (some (A 7))), Value.iface 229 (Value.pointer (some (A 8)))] 70)).heap[b]? = some (.cells #[.string s, .iface 229 (.pointer (some (A i)))] 138 (0, 0))) := by
    rw [Below.heap_alloc _ _ _ (lt_of_row h2)]; exact h2
  clear c0 c1 c2 c3 c4 c5 c6 c7 c8 hb hS1 h2
  generalize (w1.alloc (Obj.cells #[Value.iface 229 (Value.pointer (some (A 0))), Value.iface 229 (Value.pointer (some (A 1))), Value.iface 229 (Value.pointer (some (A 2))), Value.iface 229 (Value.pointer (some (A 3))), Value.iface 229 (Value.pointer (some (A 4))), Value.iface 229 (Value.pointer (some (A 5))), Value.iface 229 (Value.pointer (some (A 6))), Value.iface 229 (Value.pointer (some (A 7))), Value.iface 229 (Value.pointer (some (A 8)))] 70)) = W2 at *
  go_loop [38] (fun v => ∃ k : Nat, k ≤ i ∧ v = .int .i64 k) (fun v => 9 - (intOf v).toNat)
  case atStart => exact ⟨0, Nat.zero_le _, rfl⟩
  case round =>
    obtain ⟨k, hk, rfl⟩ := hrel
    have hck := hl k (by omega)
    have hk9 : k < 9 := by omega
    clear hl
    by_cases hki : k = i
    · subst hki
      go_wp2_with fail
      refine (is_wrap_same b s _ _ H3.out).mono ?_
      rintro e w' ⟨rfl, rfl⟩
      go_wp2_with fail
      go_ret2
      exact ⟨by go_num, hb2⟩
    · obtain ⟨ca, ta, hra⟩ := hS2.row i hi
      obtain ⟨cb, tb, hrb⟩ := hS2.row k hk9
      have hne : A i ≠ A k := fun h => hS2.other k i (by omega) hi h.symm
      go_wp2_with fail
      refine (is_wrap_other b s _ _ ca cb ta tb _ hne hra hrb H3.out).mono ?_
      rintro e w' ⟨rfl, rfl⟩
      go_wp2_with fail
      go_round
      case rel => exact ⟨k + 1, by omega, by go_num⟩
      case measure => simp [intOf]; omega
end Go.Proofs.YtonhpkigoplmaaaGreatDoor
