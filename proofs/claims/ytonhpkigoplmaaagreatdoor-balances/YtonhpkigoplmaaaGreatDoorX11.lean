/-
  KnowQ, KnowR, PolyM, SolQ, RoundZ, RoundY, MidM, PieceM, LawA, LawB, Opens, OpensP, PolyW, PolyR, ApR, ApF, ApP, ApL, PolyH, PolyF, PieceR, PieceT, ListX, JdgA, SolR, SolS.
-/
import Derived.Test.YtonhpkigoplmaaaGreatDoorX10
import Derived.Test.YtonhpkigoplmaaaGreatDoorX05
import Derived.Test.YtonhpkigoplmaaaGreatDoorX04
import Derived.Deep.Slices
import Derived.Lib.SmallJoins
import Derived.ProofKit
import Derived.OpenShut
import Derived.SizedLaws
import Derived.Test.YtonhpkigoplmaaaGreatDoorX03
import Derived.Test.YtonhpkigoplmaaaGreatDoorX01
import Derived.Test.YtonhpkigoplmaaaGreatDoorX09
import Derived.Deep.RegionHeld3
namespace Go.Proofs.YtonhpkigoplmaaaGreatDoor
open Go.RowKit Go.Extern Ieee

theorem bl_norm {m : Nat} (h1 : 4503599627370496 ≤ m) (h2 : m < 9007199254740992) : bl m = 53 := bl53 h1 h2

def quoM (n m : Nat) : Nat := 2 * (n * 2 ^ 113 / m) + if n * 2 ^ 113 % m = 0 then 0 else 1

theorem quoM_bounds {n m : Nat} (h1 : 4503599627370496 ≤ n) (h2 : n < 9007199254740992) (h3 : 4503599627370496 ≤ m) (h4 : m < 9007199254740992) : 114 ≤ bl (quoM n m) ∧ bl (quoM n m) ≤ 115 ∧ quoM n m ≠ 0 := by
  have a1 : 2 ^ 112 ≤ n * 2 ^ 113 / m := (Nat.le_div_iff_mul_le (by omega)).2 (by omega)
  have a2 : n * 2 ^ 113 / m < 2 ^ 114 := (Nat.div_lt_iff_lt_mul (by omega)).2 (by omega)
  have hlt : quoM n m < 2 ^ 115 := by unfold quoM; split <;> omega
  have hge : 2 ^ 113 ≤ quoM n m := by unfold quoM; split <;> omega
  refine ⟨?_, bl_le hlt, by omega⟩
  apply Decidable.byContradiction
  intro hc
  have h5 := lt_bl (quoM n m)
  have h6 : 2 ^ bl (quoM n m) ≤ 2 ^ 113 := Nat.pow_le_pow_right (by decide) (by omega)
  omega

theorem quoN_norm {s t : Bool} {n m : Nat} {e f : Int} (h1 : 4503599627370496 ≤ n) (h2 : n < 9007199254740992) (h3 : 4503599627370496 ≤ m) (h4 : m < 9007199254740992) : quoN (s, n, e) (t, m, f) = ((s != t), quoM n m, e - 113 - f - 1) := by
  have hb := (quoM_bounds h1 h2 h3 h4).2.2
  unfold quoN markN
  simp only
  rw [bl_norm h3 h4]
  have e1 : 2 * (n * 2 ^ (60 + 53) / m) + (if decide (n * 2 ^ (60 + 53) % m = 0) = true then 0 else 1) = quoM n m := by unfold quoM; simp
  rw [e1, decide_eq_true hb, Bool.and_true]
  rfl

end Go.Proofs.YtonhpkigoplmaaaGreatDoor
namespace Go.Proofs.YtonhpkigoplmaaaGreatDoor
open Go.RowKit Go.Extern Ieee

end Go.Proofs.YtonhpkigoplmaaaGreatDoor
namespace Go.Proofs.YtonhpkigoplmaaaGreatDoor
open Go.RowKit Go.Extern Ieee

theorem iv_leV {l h : Nat} (i : Iv l h) : leV (plT l) (plT h) := by
  refine (lessT_le (plT h) (plT l)).2 ?_
  rw [lessT_pos i i.low]
  exact decide_eq_false (by have := i.le; omega)

theorem leV_means2 {x y : Bool × Nat × Int} (h : leV x y) {e : Int} (h1 : e ≤ x.2.2) (h2 : e ≤ y.2.2) : sg x.1 (x.2.1 * 2 ^ (x.2.2 - e).toNat) ≤ sg y.1 (y.2.1 * 2 ^ (y.2.2 - e).toNat) := by
  unfold leV lvA lvB at h
  have hm := Int.mul_le_mul_of_nonneg_right h (Int.natCast_nonneg (2 ^ (min x.2.2 y.2.2 - e).toNat))
  rw [sg_mul, sg_mul, Nat.mul_assoc, Nat.mul_assoc, ← Nat.pow_add, ← Nat.pow_add] at hm
  rwa [show (x.2.2 - min x.2.2 y.2.2).toNat + (min x.2.2 y.2.2 - e).toNat = (x.2.2 - e).toNat by omega, show (y.2.2 - min x.2.2 y.2.2).toNat + (min x.2.2 y.2.2 - e).toNat = (y.2.2 - e).toNat by omega] at hm

end Go.Proofs.YtonhpkigoplmaaaGreatDoor
namespace Go.Proofs.YtonhpkigoplmaaaGreatDoor
open Go.RowKit Go.Extern Ieee

/-- A triple's number. -/
def valQ (x : Bool × Nat × Int) : Rat := (sg x.1 x.2.1 : Rat) * pw x.2.2

theorem cast_mul_pw (z : Int) (k : Nat) : ((z * ((2 ^ k : Nat) : Int) : Int) : Rat) = (z : Rat) * pw k := by
  rw [pw_nat, Rat.intCast_mul, Rat.intCast_natCast]

theorem val_means {e z : Int} {x : Bool × Nat × Int} (h : MeansT e z x) : valQ x = (z : Rat) * pw e := by
  have h1 := h (min e x.2.2) (by omega) (by omega)
  have h2 : ((sg x.1 (x.2.1 * 2 ^ (x.2.2 - min e x.2.2).toNat) : Int) : Rat) = ((z * ((2 ^ (e - min e x.2.2).toNat : Nat) : Int) : Int) : Rat) := by rw [h1]
  rw [cast_mul_pw, ← sg_mul, cast_mul_pw] at h2
  unfold valQ
  have e1 : pw x.2.2 = pw ((x.2.2 - min e x.2.2).toNat : Int) * pw (min e x.2.2) := by rw [← pw_add]; congr 1; omega
  have e2 : pw e = pw ((e - min e x.2.2).toNat : Int) * pw (min e x.2.2) := by rw [← pw_add]; congr 1; omega
  rw [e1, e2]
  grind

theorem val_le {x y : Bool × Nat × Int} (h : leV x y) : valQ x ≤ valQ y := by
  have h1 := leV_means2 h (e := min x.2.2 y.2.2) (by omega) (by omega)
  have h2 : ((sg x.1 (x.2.1 * 2 ^ (x.2.2 - min x.2.2 y.2.2).toNat) : Int) : Rat) ≤ ((sg y.1 (y.2.1 * 2 ^ (y.2.2 - min x.2.2 y.2.2).toNat) : Int) : Rat) := Rat.intCast_le_intCast.2 h1
  rw [← sg_mul, ← sg_mul, cast_mul_pw, cast_mul_pw] at h2
  have h3 := mul_le_r (Rat.le_of_lt (pw_pos (min x.2.2 y.2.2))) h2
  unfold valQ
  have e1 : pw x.2.2 = pw ((x.2.2 - min x.2.2 y.2.2).toNat : Int) * pw (min x.2.2 y.2.2) := by rw [← pw_add]; congr 1; omega
  have e2 : pw y.2.2 = pw ((y.2.2 - min x.2.2 y.2.2).toNat : Int) * pw (min x.2.2 y.2.2) := by rw [← pw_add]; congr 1; omega
  rw [e1, e2]
  grind

theorem val_sum (x y : Bool × Nat × Int) : valQ (sumT x y) = valQ x + valQ y := by
  have hx := means_low2 x (e := min x.2.2 y.2.2) (by omega)
  have hy := means_low2 y (e := min x.2.2 y.2.2) (by omega)
  have hs : MeansT _ _ (sumT x y) := sumN_means hx hy
  rw [val_means hx, val_means hy, val_means hs, Rat.intCast_add]
  grind

theorem val_neg (x : Bool × Nat × Int) : valQ (negT x) = - valQ x := by
  have hx := means_low2 x (e := x.2.2) (by omega)
  rw [val_means hx, val_means (means_neg hx), Rat.intCast_neg]
  grind

theorem val_prod (x y : Bool × Nat × Int) : valQ (prodN x y) = valQ x * valQ y := by
  have hx := means_low2 x (e := x.2.2) (by omega)
  have hy := means_low2 y (e := y.2.2) (by omega)
  obtain ⟨s, n, e⟩ := x
  obtain ⟨t, m, f⟩ := y
  unfold prodN valQ
  simp only
  rw [pw_add]
  have : ((sg ((s != t) && decide (n * m ≠ 0)) (n * m) : Int) : Rat) = (sg s n : Rat) * (sg t m : Rat) := by
    rw [← Rat.intCast_mul, ← sg_mul2]
    congr 1
    by_cases h0 : n * m = 0
    · rw [h0]; unfold sg; cases s <;> cases t <;> rfl
    · rw [decide_eq_true h0, Bool.and_true]
  rw [this]; grind

theorem val_zero {x : Bool × Nat × Int} (h : x.2.1 = 0) : valQ x = 0 := by
  unfold valQ
  rw [h]
  have : ((sg x.1 0 : Int) : Rat) = 0 := by unfold sg; split <;> rfl
  rw [this]; grind

/-- A triple that stands for a number: its rung is the number's. -/
def BR (x : Bool × Nat × Int) (q : Rat) : Prop := (x.2.1 = 0 ∧ q = 0) ∨ (x.2.1 ≠ 0 ∧ ∃ E, q = (if x.1 then -E else E) ∧ rvQ (rung x.2.1 x.2.2) ≤ E ∧ E ≤ rvQ (rung x.2.1 x.2.2 + if inex x.2.1 then 1 else 0))

theorem rv_rung {n : Nat} (e : Int) (h : n ≠ 0) : rvQ (rung n e) = (mf n : Rat) * pw (e + bl n - 53) ∧ rvQ (rung n e + 1) = ((mf n + 1 : Nat) : Rat) * pw (e + bl n - 53) := by
  obtain ⟨h1, h2⟩ := mf_bounds (Nat.pos_of_ne_zero h)
  have hr : rung n e = (e + bl n - 53 + 1074) * 4503599627370496 + (mf n : Int) := by unfold rung; omega
  constructor
  · rw [rv_at hr (by omega) (by omega), Rat.intCast_natCast]
  · rw [rv_next hr (by omega) (by omega)]
    congr 1

theorem rv_rung2 {n : Nat} (e : Int) (h : n ≠ 0) : rvQ (rung n e + if inex n then 1 else 0) = ((mf n + (if inex n then 1 else 0) : Nat) : Rat) * pw (e + bl n - 53) := by
  obtain ⟨h1, h2⟩ := rv_rung e h
  cases inex n
  · simp only [Bool.false_eq_true, if_false, Int.add_zero, Nat.add_zero]; exact h1
  · simp only [if_true]; exact h2

theorem cast_nat_pw (n k : Nat) : ((n * 2 ^ k : Nat) : Rat) = (n : Rat) * pw k := by
  rw [pw_nat, Rat.natCast_mul]

theorem br_exact (x : Bool × Nat × Int) : BR x (valQ x) := by
  by_cases h0 : x.2.1 = 0
  · left; exact ⟨h0, val_zero h0⟩
  · right
    refine ⟨h0, (x.2.1 : Rat) * pw x.2.2, ?_, ?_⟩
    · unfold valQ sg
      cases x.1
      · simp only [Bool.false_eq_true, if_false]; rw [Rat.intCast_natCast]
      · simp only [if_true]; rw [Rat.intCast_neg, Rat.intCast_natCast]; grind
    · obtain ⟨c1, c2⟩ := mf_cut x.2.1 x.2.2 (min x.2.2 (x.2.2 + bl x.2.1 - 53)) h0 (by omega) (by omega)
      have d1 : ((mf x.2.1 * 2 ^ (x.2.2 + bl x.2.1 - 53 - min x.2.2 (x.2.2 + bl x.2.1 - 53)).toNat : Nat) : Rat) ≤ ((x.2.1 * 2 ^ (x.2.2 - min x.2.2 (x.2.2 + bl x.2.1 - 53)).toNat : Nat) : Rat) := Rat.natCast_le_natCast.2 c1
      have d2 : ((x.2.1 * 2 ^ (x.2.2 - min x.2.2 (x.2.2 + bl x.2.1 - 53)).toNat : Nat) : Rat) ≤ (((mf x.2.1 + if inex x.2.1 then 1 else 0) * 2 ^ (x.2.2 + bl x.2.1 - 53 - min x.2.2 (x.2.2 + bl x.2.1 - 53)).toNat : Nat) : Rat) := Rat.natCast_le_natCast.2 c2
      rw [cast_nat_pw, cast_nat_pw] at d1 d2
      rw [(rv_rung _ h0).1, rv_rung2 _ h0]
      generalize hc : min x.2.2 (x.2.2 + bl x.2.1 - 53) = c at *
      have e1 : pw x.2.2 = pw ((x.2.2 - c).toNat : Int) * pw c := by rw [← pw_add]; congr 1; omega
      have e2 : pw (x.2.2 + bl x.2.1 - 53) = pw ((x.2.2 + bl x.2.1 - 53 - c).toNat : Int) * pw c := by rw [← pw_add]; congr 1; omega
      rw [e1, e2]
      have k1 := mul_le_r (Rat.le_of_lt (pw_pos c)) d1
      have k2 := mul_le_r (Rat.le_of_lt (pw_pos c)) d2
      constructor <;> grind

theorem br_neg {x : Bool × Nat × Int} {q : Rat} (h : BR x q) : BR (negT x) (-q) := by
  rcases h with ⟨h0, rfl⟩ | ⟨h0, E, rfl, h1, h2⟩
  · left; exact ⟨h0, by grind⟩
  · right
    refine ⟨h0, E, ?_, h1, h2⟩
    show -(if x.1 = true then -E else E) = if negS x.1 x.2.1 = true then -E else E
    unfold negS
    rw [decide_eq_true h0]
    cases x.1 <;> simp

theorem le_cancel {a b c : Rat} (hc : 0 < c) (h : a * c ≤ b * c) : a ≤ b := by
  apply Decidable.byContradiction
  intro hn
  have := Rat.mul_pos (show 0 < a - b by grind) hc
  grind

/-- A quotient's mark, cut to even numbers. -/
theorem quo_cut {X m N j : Nat} (hm : 0 < m) (hN : N = 2 * (X / m) + if X % m = 0 then 0 else 1) (hj : 0 < j) : N / 2 ^ j * 2 ^ j * m ≤ 2 * X ∧ 2 * X ≤ (N / 2 ^ j + if decide (N % 2 ^ j ≠ 0) then 1 else 0) * 2 ^ j * m := by
  have hd := Nat.div_add_mod X m
  have hl := Nat.mod_lt X hm
  have hd2 := Nat.div_add_mod N (2 ^ j)
  have hl2 := Nat.mod_lt N (Nat.two_pow_pos j)
  have hk : 2 ^ j = 2 * 2 ^ (j - 1) := by rw [show j = (j - 1) + 1 by omega, Nat.pow_succ, Nat.mul_comm]; rfl
  have hz : N % 2 ^ j = 0 → X % m = 0 := by
    intro h0
    apply Decidable.byContradiction
    intro hc
    rw [if_neg hc] at hN
    rw [h0, hk, Nat.add_zero, Nat.mul_assoc] at hd2
    omega
  rw [hk] at hd2 hl2 hz ⊢
  generalize 2 ^ (j - 1) = g at *
  clear hk
  generalize hc : N / (2 * g) = c at *
  generalize X / m = a at *
  have e1 : 2 * g * c = 2 * (c * g) := by rw [Nat.mul_assoc, Nat.mul_comm g]
  have e2 : c * (2 * g) * m = 2 * (c * g * m) := by rw [Nat.mul_left_comm c, Nat.mul_assoc]
  have e3 : (c + 1) * (2 * g) * m = 2 * ((c + 1) * g * m) := by rw [Nat.mul_left_comm (c + 1), Nat.mul_assoc]
  have e4 : (c + 1) * g = c * g + g := by rw [Nat.add_mul, Nat.one_mul]
  have e5 : a * m = m * a := Nat.mul_comm _ _
  have e6 : (a + 1) * m = m * a + m := by rw [Nat.add_mul, Nat.one_mul, Nat.mul_comm]
  constructor
  · rw [e2]
    have h1 : c * g ≤ a := by
      split at hN <;> omega
    have h2 := Nat.mul_le_mul_right m h1
    omega
  · by_cases h0 : N % (2 * g) = 0
    · rw [decide_eq_false (by omega)]
      simp only [Bool.false_eq_true, if_false, Nat.add_zero]
      have hx := hz h0
      rw [if_pos hx] at hN
      rw [e2]
      have h1 : a ≤ c * g := by omega
      have h2 := Nat.mul_le_mul_right m h1
      omega
    · rw [decide_eq_true h0, if_pos rfl, e3]
      have h1 : a + 1 ≤ (c + 1) * g := by
        split at hN <;> omega
      have h2 := Nat.mul_le_mul_right m h1
      omega

theorem quo_rat {n m M0 M1 P K H pe pf : Rat} (hm : 0 < m) (hpf : 0 < pf) (hpe : 0 < pe) (hH : 0 < H) (e1 : P * (pf * (2 * H)) = K * pe) (low : M0 * K * m ≤ 2 * (n * H)) (high : 2 * (n * H) ≤ M1 * K * m) : M0 * P ≤ n * pe / (m * pf) ∧ n * pe / (m * pf) ≤ M1 * P := by
  have hpos : 0 < m * pf * (2 * H) := Rat.mul_pos (Rat.mul_pos hm hpf) (by grind)
  have hq : n * pe / (m * pf) * (m * pf) = n * pe := by
    have := Rat.mul_pos hm hpf
    grind
  generalize n * pe / (m * pf) = q at *
  have R : q * (m * pf * (2 * H)) = 2 * (n * H) * pe := by
    rw [show q * (m * pf * (2 * H)) = q * (m * pf) * (2 * H) by grind, hq]; grind
  have L : ∀ M : Rat, M * P * (m * pf * (2 * H)) = M * K * m * pe := by
    intro M
    rw [show M * P * (m * pf * (2 * H)) = M * m * (P * (pf * (2 * H))) by grind, e1]; grind
  constructor
  · refine le_cancel hpos ?_
    rw [L, R]
    exact mul_le_r (Rat.le_of_lt hpe) low
  · refine le_cancel hpos ?_
    rw [L, R]
    exact mul_le_r (Rat.le_of_lt hpe) high

/-- A quotient of two mantissas, its power of two unspoken. -/
theorem quo_any {n m h N : Nat} {e f : Int} (hm : 0 < m) (hN : N = 2 * (n * 2 ^ h / m) + if n * 2 ^ h % m = 0 then 0 else 1) (hb : 54 ≤ bl N) : rvQ (rung N (e - h - f - 1)) ≤ (n : Rat) * pw e / ((m : Rat) * pw f) ∧ (n : Rat) * pw e / ((m : Rat) * pw f) ≤ rvQ (rung N (e - h - f - 1) + if inex N then 1 else 0) := by
  have b3 : N ≠ 0 := by
    rintro rfl
    have : bl 0 = 0 := rfl
    omega
  obtain ⟨low, high⟩ := quo_cut (j := bl N - 53) hm hN (by omega)
  have hmf : mf N = N / 2 ^ (bl N - 53) := by unfold mf; rw [if_neg (by omega)]
  have hix : inex N = decide (N % 2 ^ (bl N - 53) ≠ 0) := by unfold inex; simp [show 53 < bl N by omega]
  rw [← hmf] at low
  rw [← hmf, ← hix] at high
  rw [(rv_rung _ b3).1, rv_rung2 _ b3]
  have low' : ((mf N * 2 ^ (bl N - 53) * m : Nat) : Rat) ≤ ((2 * (n * 2 ^ h) : Nat) : Rat) := Rat.natCast_le_natCast.2 low
  have high' : ((2 * (n * 2 ^ h) : Nat) : Rat) ≤ (((mf N + if inex N then 1 else 0) * 2 ^ (bl N - 53) * m : Nat) : Rat) := Rat.natCast_le_natCast.2 high
  rw [Rat.natCast_mul, cast_nat_pw, Rat.natCast_mul, cast_nat_pw] at low' high'
  refine quo_rat (Rat.natCast_pos.2 hm) (pw_pos f) (pw_pos e) (pw_pos (h : Int)) ?_ low' high'
  rw [← pw_one, ← pw_add, ← pw_add, ← pw_add, ← pw_add]; congr 1; omega

/-- Quotients of plain floats. -/
theorem br_quo {x y : Bool × Nat × Int} (hx : Plnum x) (hy : Plnum y) (hy0 : y.2.1 ≠ 0) : BR (quoN x y) (valQ x / valQ y) := by
  obtain ⟨s, n, e⟩ := x
  obtain ⟨t, m, f⟩ := y
  rcases hy with hy | hy
  · cases hy; exact absurd rfl hy0
  simp only at hy hy0
  rcases hx with hx | hx
  · cases hx
    left
    constructor
    · unfold quoN markN
      simp
    · rw [val_zero rfl]; grind
  · simp only at hx
    rw [quoN_norm hx.1 hx.2.1 hy.1 hy.2.1]
    obtain ⟨b1, b2, b3⟩ := quoM_bounds hx.1 hx.2.1 hy.1 hy.2.1
    right
    refine ⟨b3, (n : Rat) * pw e / ((m : Rat) * pw f), ?_, quo_any (h := 113) (by omega) rfl (show 54 ≤ bl (quoM n m) by omega)⟩
    unfold valQ sg
    simp only
    have hm : (m : Rat) ≠ 0 := by
      have : (0 : Rat) < (m : Rat) := Rat.natCast_pos.2 (by omega)
      grind
    have hp := pw_pos f
    clear b1 b2 b3 hx hy
    cases s <;> cases t <;> simp [Rat.intCast_neg, Rat.intCast_natCast] <;> grind
end Go.Proofs.YtonhpkigoplmaaaGreatDoor
namespace Go.Proofs.YtonhpkigoplmaaaGreatDoor
open Go.RowKit

end Go.Proofs.YtonhpkigoplmaaaGreatDoor
namespace Go.Proofs.YtonhpkigoplmaaaGreatDoor
open Go.RowKit

end Go.Proofs.YtonhpkigoplmaaaGreatDoor
namespace Go.Proofs.YtonhpkigoplmaaaGreatDoor
open Go.RowKit Go.Extern Ieee

end Go.Proofs.YtonhpkigoplmaaaGreatDoor
namespace Go.Proofs.YtonhpkigoplmaaaGreatDoor
open Go.RowKit Go.Extern Ieee

end Go.Proofs.YtonhpkigoplmaaaGreatDoor
namespace Go.Proofs.YtonhpkigoplmaaaGreatDoor
open Go.RowKit

theorem blk9 {W : World} {g : Nat} {a0 a1 a2 a3 a4 a5 a6 a7 a8 : Value} {t : TypeId} (h : W.heap[g]? = some (.cells #[a0, a1, a2, a3, a4, a5, a6, a7, a8] t (0, 0))) :
    W.cell? ⟨g, 0, none⟩ = some a0 ∧ W.cell? ⟨g, 1, none⟩ = some a1 ∧ W.cell? ⟨g, 2, none⟩ = some a2 ∧ W.cell? ⟨g, 3, none⟩ = some a3 ∧ W.cell? ⟨g, 4, none⟩ = some a4 ∧ W.cell? ⟨g, 5, none⟩ = some a5 ∧ W.cell? ⟨g, 6, none⟩ = some a6 ∧ W.cell? ⟨g, 7, none⟩ = some a7 ∧ W.cell? ⟨g, 8, none⟩ = some a8 :=
  ⟨by simp [World.cell?, h], by simp [World.cell?, h], by simp [World.cell?, h], by simp [World.cell?, h], by simp [World.cell?, h], by simp [World.cell?, h], by simp [World.cell?, h], by simp [World.cell?, h], by simp [World.cell?, h]⟩

end Go.Proofs.YtonhpkigoplmaaaGreatDoor
namespace Go.Proofs.YtonhpkigoplmaaaGreatDoor
open Go.RowKit

/-- A script's steps as they lie in memory. -/
structure Script where
  k : Nat → Int
  a : Nat → Int
  b : Nat → Int
  s : Nat → ByteArray
  xl : Nat → Nat
  xh : Nat → Nat
  yl : Nat → Nat
  yh : Nat → Nat
  po : Nat → Option Addr
  pl : Nat → Nat
  pc : Nat → Nat

/-- n steps lie from an address on. -/
def Script.at (z : Script) (w : World) (g off n : Nat) : Prop :=
  ∀ i, i < n → w.cell? ⟨g, off + i * 9, none⟩ = some (.int .i64 (z.k i)) ∧ w.cell? ⟨g, off + i * 9 + 1, none⟩ = some (.int .i64 (z.a i)) ∧ w.cell? ⟨g, off + i * 9 + 2, none⟩ = some (.int .i64 (z.b i)) ∧ w.cell? ⟨g, off + i * 9 + 3, none⟩ = some (.string (z.s i)) ∧ w.cell? ⟨g, off + i * 9 + 4, none⟩ = some (.int .u64 (z.xl i : Int)) ∧ w.cell? ⟨g, off + i * 9 + 5, none⟩ = some (.int .u64 (z.xh i : Int)) ∧ w.cell? ⟨g, off + i * 9 + 6, none⟩ = some (.int .u64 (z.yl i : Int)) ∧ w.cell? ⟨g, off + i * 9 + 7, none⟩ = some (.int .u64 (z.yh i : Int)) ∧ w.cell? ⟨g, off + i * 9 + 8, none⟩ = some (.slice (z.po i) (z.pl i) (z.pc i))

end Go.Proofs.YtonhpkigoplmaaaGreatDoor
namespace Go.Proofs.YtonhpkigoplmaaaGreatDoor
open Go.RowKit Go.Deep Go.ChangeShapes Go.WideShapes

theorem k_cellsOp : Tryz.prog.cellsOf 31 = 9 := by kernel_rfl
theorem k_cellsBox : Tryz.prog.cellsOf 28 = 2 := by kernel_rfl
theorem k_cells_int : Tryz.prog.cellsOf 3 = 1 := by kernel_rfl
theorem k_cells_u64 : Tryz.prog.cellsOf 26 = 1 := by kernel_rfl
theorem k_cells_str : Tryz.prog.cellsOf 9 = 1 := by kernel_rfl
theorem k_cells_p : Tryz.prog.cellsOf 29 = 1 := by kernel_rfl

section
variable {H : Type} {enc : TypeId × Value → H} {W : World} {base : Nat} {spare : Nat → Bool} {held : Bool}

theorem u64_wf {n : Int} (h : (Lit.int .u64 n).wf = true) : ∃ m : Nat, n = (m : Int) ∧ m < 18446744073709551616 := by
  have hb := bounds_u64 h
  exact ⟨n.toNat, by omega, by omega⟩

theorem box_cells {fuel : Nat} {a b : Value} {x : DataW H × List MemPlace} (h : DataW.trod enc Tryz.prog W base spare held fuel 28 [a, b] = some x) :
    ∃ l u : Nat, a = .int .u64 (l : Int) ∧ b = .int .u64 (u : Int) ∧ l < 18446744073709551616 ∧ u < 18446744073709551616 := by
  obtain ⟨y0, y1, n, _, _, h0, h1⟩ := trod_struct2 Tryz.underlying28 h
  rw [k_cells_u64] at h0 h1
  obtain ⟨p, e0, _, w0⟩ := DataW.trod_int Tryz.underlying26 h0
  obtain ⟨q, e1, _, w1⟩ := DataW.trod_int Tryz.underlying26 h1
  obtain ⟨l, rfl, hl⟩ := u64_wf w0
  obtain ⟨u, rfl, hu⟩ := u64_wf w1
  simp at e0 e1
  exact ⟨l, u, e0, e1, hl, hu⟩

theorem list9 {α : Type} {l : List α} (h : l.length = 9) : ∃ a0 a1 a2 a3 a4 a5 a6 a7 a8, l = [a0, a1, a2, a3, a4, a5, a6, a7, a8] := by
  match l, h with
  | [a0, a1, a2, a3, a4, a5, a6, a7, a8], _ => exact ⟨_, _, _, _, _, _, _, _, _, rfl⟩

/-- One step's cells. -/
theorem op_cells {fuel : Nat} {cs : List Value} {x : DataW H × List MemPlace} (h : DataW.trod enc Tryz.prog W base spare held fuel 31 cs = some x) :
    ∃ (k a b : Int) (s : ByteArray) (xl xh yl yh : Nat) (po : Option Addr) (pl pc : Nat), cs = [.int .i64 k, .int .i64 a, .int .i64 b, .string s, .int .u64 (xl : Int), .int .u64 (xh : Int), .int .u64 (yl : Int), .int .u64 (yh : Int), .slice po pl pc] ∧ xl < 18446744073709551616 ∧ xh < 18446744073709551616 ∧ yl < 18446744073709551616 ∧ yh < 18446744073709551616 ∧ (-9223372036854775808 ≤ a ∧ a < 9223372036854775808) ∧ (-9223372036854775808 ≤ b ∧ b < 9223372036854775808) := by
  obtain ⟨xs, n, _, _, hl, hlen, hf⟩ := DataW.trod_struct Tryz.underlying31 h
  rw [k_cellsOp] at hl
  obtain ⟨a0, a1, a2, a3, a4, a5, a6, a7, a8, rfl⟩ := list9 hl
  have hlen7 : xs.length = 7 := hlen
  have get : ∀ i, i < 7 → ∃ y, xs[i]? = some y := fun i hi => ⟨xs[i]'(by rw [hlen7]; exact hi), List.getElem?_eq_getElem (by rw [hlen7]; exact hi)⟩
  obtain ⟨y0, g0⟩ := get 0 (by omega)
  obtain ⟨y1, g1⟩ := get 1 (by omega)
  obtain ⟨y2, g2⟩ := get 2 (by omega)
  obtain ⟨y3, g3⟩ := get 3 (by omega)
  obtain ⟨y4, g4⟩ := get 4 (by omega)
  obtain ⟨y5, g5⟩ := get 5 (by omega)
  obtain ⟨y6, g6⟩ := get 6 (by omega)
  have f0 : DataW.trod enc Tryz.prog W base spare held n 3 (List.take (Tryz.prog.cellsOf 3) (List.drop 0 [a0, a1, a2, a3, a4, a5, a6, a7, a8])) = some y0 := (hf 0 _ rfl).trans g0
  have f1 : DataW.trod enc Tryz.prog W base spare held n 3 (List.take (Tryz.prog.cellsOf 3) (List.drop 1 [a0, a1, a2, a3, a4, a5, a6, a7, a8])) = some y1 := (hf 1 _ rfl).trans g1
  have f2 : DataW.trod enc Tryz.prog W base spare held n 3 (List.take (Tryz.prog.cellsOf 3) (List.drop 2 [a0, a1, a2, a3, a4, a5, a6, a7, a8])) = some y2 := (hf 2 _ rfl).trans g2
  have f3 : DataW.trod enc Tryz.prog W base spare held n 9 (List.take (Tryz.prog.cellsOf 9) (List.drop 3 [a0, a1, a2, a3, a4, a5, a6, a7, a8])) = some y3 := (hf 3 _ rfl).trans g3
  have f4 : DataW.trod enc Tryz.prog W base spare held n 28 (List.take (Tryz.prog.cellsOf 28) (List.drop 4 [a0, a1, a2, a3, a4, a5, a6, a7, a8])) = some y4 := (hf 4 _ rfl).trans g4
  have f5 : DataW.trod enc Tryz.prog W base spare held n 28 (List.take (Tryz.prog.cellsOf 28) (List.drop 6 [a0, a1, a2, a3, a4, a5, a6, a7, a8])) = some y5 := (hf 5 _ rfl).trans g5
  have f6 : DataW.trod enc Tryz.prog W base spare held n 29 (List.take (Tryz.prog.cellsOf 29) (List.drop 8 [a0, a1, a2, a3, a4, a5, a6, a7, a8])) = some y6 := (hf 6 _ rfl).trans g6
  rw [k_cells_int] at f0 f1 f2
  rw [k_cells_str] at f3
  rw [k_cellsBox] at f4 f5
  rw [k_cells_p] at f6
  obtain ⟨k, e0, -, -⟩ := DataW.trod_int Tryz.underlying3 f0
  obtain ⟨a, e1, -, wa⟩ := DataW.trod_int Tryz.underlying3 f1
  obtain ⟨b, e2, -, wb⟩ := DataW.trod_int Tryz.underlying3 f2
  have ba := bounds_i64 wa
  have bb := bounds_i64 wb
  obtain ⟨s, e3, -, -⟩ := DataW.trod_string Tryz.underlying9 f3
  obtain ⟨xl, xh, e4, e5, b4, b5⟩ := box_cells (show DataW.trod enc Tryz.prog W base spare held n 28 [a4, a5] = some y4 from f4)
  obtain ⟨yl, yh, e6, e7, b6, b7⟩ := box_cells (show DataW.trod enc Tryz.prog W base spare held n 28 [a6, a7] = some y5 from f5)
  obtain ⟨po, pl, pc, e8⟩ := Joins.slice_form Tryz.underlying29 f6
  simp at e0 e1 e2 e3 e8
  subst e0 e1 e2 e3 e4 e5 e6 e7 e8
  exact ⟨_, _, _, _, _, _, _, _, _, _, _, rfl, b4, b5, b6, b7, ⟨by omega, by omega⟩, ⟨by omega, by omega⟩⟩

/-- A script that is read lies as its steps. -/
theorem script_of {fuel : Nat} {v : Value} {d : DataW H} {ps : List MemPlace} (h : DataW.trod enc Tryz.prog W base spare held fuel 22 v.cells.toList = some (d, ps)) (hv : ∃ a len cap, v = .slice a len cap) :
    ∃ (z : Script) (ao : Option Addr) (n c : Nat), v = .slice ao n c ∧ (n = 0 ∨ ∃ g off, ao = some ⟨g, off, none⟩ ∧ g < W.heap.size ∧ z.at W g off n) ∧ (∀ i, i < n → (z.xl i < 18446744073709551616 ∧ z.xh i < 18446744073709551616) ∧ (z.yl i < 18446744073709551616 ∧ z.yh i < 18446744073709551616) ∧ (-9223372036854775808 ≤ z.a i ∧ z.a i < 9223372036854775808) ∧ (-9223372036854775808 ≤ z.b i ∧ z.b i < 9223372036854775808)) ∧
      (d = .nil ∧ n = 0 ∨ ∃ es sp, d = .slice es sp ∧ es.length = n) := by
  obtain ⟨ao, n, c, rfl⟩ := hv
  have hcs : (Value.slice ao n c).cells.toList = [.slice ao n c] := rfl
  rw [hcs] at h
  rcases open_slice Tryz.underlying22 h with ⟨h0, hx⟩ | ⟨a, len, cap, m, f, D, Pl, h0, hb, hl, hm, hmm, hx, hall⟩
  · simp at h0
    obtain ⟨rfl, rfl, rfl⟩ := h0
    simp at hx
    exact ⟨⟨fun _ => 0, fun _ => 0, fun _ => 0, fun _ => ByteArray.empty, fun _ => 0, fun _ => 0, fun _ => 0, fun _ => 0, fun _ => none, fun _ => 0, fun _ => 0⟩, none, 0, 0, rfl, Or.inl rfl, fun i hi => by omega, Or.inl ⟨hx.1, rfl⟩⟩
  · simp at h0
    obtain ⟨rfl, rfl, rfl⟩ := h0
    have hmn : n ≤ m := by rw [hmm]; split <;> omega
    rw [k_cellsOp] at hall
    have hop : ∀ i, i < n → ∃ t : (Int × Int × Int) × ByteArray × (Nat × Nat × Nat × Nat) × (Option Addr × Nat × Nat),
        (W.cell? (a.add (i * 9)) = some (.int .i64 t.1.1) ∧ W.cell? ((a.add (i * 9)).add 1) = some (.int .i64 t.1.2.1) ∧ W.cell? ((a.add (i * 9)).add 2) = some (.int .i64 t.1.2.2) ∧ W.cell? ((a.add (i * 9)).add 3) = some (.string t.2.1) ∧
         W.cell? ((a.add (i * 9)).add 4) = some (.int .u64 (t.2.2.1.1 : Int)) ∧ W.cell? ((a.add (i * 9)).add 5) = some (.int .u64 (t.2.2.1.2.1 : Int)) ∧ W.cell? ((a.add (i * 9)).add 6) = some (.int .u64 (t.2.2.1.2.2.1 : Int)) ∧ W.cell? ((a.add (i * 9)).add 7) = some (.int .u64 (t.2.2.1.2.2.2 : Int)) ∧
         W.cell? ((a.add (i * 9)).add 8) = some (.slice t.2.2.2.1 t.2.2.2.2.1 t.2.2.2.2.2)) ∧
        (t.2.2.1.1 < 18446744073709551616 ∧ t.2.2.1.2.1 < 18446744073709551616) ∧ (t.2.2.1.2.2.1 < 18446744073709551616 ∧ t.2.2.1.2.2.2 < 18446744073709551616) ∧ (-9223372036854775808 ≤ t.1.2.1 ∧ t.1.2.1 < 9223372036854775808) ∧ (-9223372036854775808 ≤ t.1.2.2 ∧ t.1.2.2 < 9223372036854775808) := by
      intro i hi
      obtain ⟨cs', h1, h2⟩ := hall i (by omega)
      obtain ⟨-, -, hc⟩ := World.cells?_some h1
      obtain ⟨k, a', b', s, xl, xh, yl, yh, po, pl, pc, rfl, q1, q2, q3, q4, q5⟩ := op_cells h2
      have e0 : (a.add (i * 9)).add 0 = a.add (i * 9) := by simp [Addr.add]
      refine ⟨((k, a', b'), s, (xl, xh, yl, yh), (po, pl, pc)), ⟨?_, ?_, ?_, ?_, ?_, ?_, ?_, ?_, ?_⟩, ⟨q1, q2⟩, ⟨q3, q4⟩, q5⟩
      · have := hc 0 (by omega); rw [e0] at this; simpa using this
      · simpa using hc 1 (by omega)
      · simpa using hc 2 (by omega)
      · simpa using hc 3 (by omega)
      · simpa using hc 4 (by omega)
      · simpa using hc 5 (by omega)
      · simpa using hc 6 (by omega)
      · simpa using hc 7 (by omega)
      · simpa using hc 8 (by omega)
    obtain ⟨F, hF⟩ := choose_lt (α := (Int × Int × Int) × ByteArray × (Nat × Nat × Nat × Nat) × (Option Addr × Nat × Nat)) hop
    refine ⟨⟨fun i => (F i).1.1, fun i => (F i).1.2.1, fun i => (F i).1.2.2, fun i => (F i).2.1, fun i => (F i).2.2.1.1, fun i => (F i).2.2.1.2.1, fun i => (F i).2.2.1.2.2.1, fun i => (F i).2.2.1.2.2.2, fun i => (F i).2.2.2.1, fun i => (F i).2.2.2.2.1, fun i => (F i).2.2.2.2.2⟩, some a, n, c, rfl, ?_, fun i hi => (hF i hi).2, ?_⟩
    · by_cases hn : n = 0
      · exact Or.inl hn
      · right
        obtain ⟨g, off, spot⟩ := a
        have h00 := (hF 0 (by omega)).1.1
        have hspot : spot = none := by simpa [Addr.add] using World.cell?_spot h00
        subst hspot
        have ea : ∀ j, (Addr.mk g off none).add j = ⟨g, off + j, none⟩ := fun j => by
          by_cases hj : j = 0
          · subst hj; simp [Addr.add]
          · simp [Addr.add, hj]
        have ea2 : ∀ i j, ((Addr.mk g off none).add i).add j = ⟨g, off + i + j, none⟩ := fun i j => by
          rw [ea]
          by_cases hj : j = 0
          · subst hj; simp [Addr.add]
          · simp [Addr.add, hj]
        refine ⟨g, off, rfl, ?_, fun i hi => ?_⟩
        · have := World.block_lt_of_cell? W _ h00
          rw [ea] at this
          exact this
        · have := (hF i hi).1
          rw [ea2, ea2, ea2, ea2, ea2, ea2, ea2, ea2, ea] at this
          exact this
    · right
      simp only [Prod.mk.injEq] at hx
      exact ⟨_, _, hx.1, by simp⟩
end
end Go.Proofs.YtonhpkigoplmaaaGreatDoor
namespace Go.Proofs.YtonhpkigoplmaaaGreatDoor
open Go.RowKit Go.Deep Go.ChangeShapes Go.WideShapes

section
variable {H : Type} {enc : TypeId × Value → H} {W : World} {base : Nat} {spare : Nat → Bool} {held : Bool}

end
end Go.Proofs.YtonhpkigoplmaaaGreatDoor
namespace Go.Proofs.YtonhpkigoplmaaaGreatDoor
open Go.RowKit Go.Extern

end Go.Proofs.YtonhpkigoplmaaaGreatDoor
namespace Go.Proofs.YtonhpkigoplmaaaGreatDoor
open Go.RowKit Go.Extern

attribute [local go_sem] run_store_float
end Go.Proofs.YtonhpkigoplmaaaGreatDoor
namespace Go.Proofs.YtonhpkigoplmaaaGreatDoor
open Go.RowKit

end Go.Proofs.YtonhpkigoplmaaaGreatDoor
namespace Go.Proofs.YtonhpkigoplmaaaGreatDoor
open Go.RowKit Go.Extern Ieee
attribute [local go_sem] run_store_float

end Go.Proofs.YtonhpkigoplmaaaGreatDoor
namespace Go.Proofs.YtonhpkigoplmaaaGreatDoor
open Go.RowKit Go.Extern Ieee
attribute [local go_sem] run_store_float

end Go.Proofs.YtonhpkigoplmaaaGreatDoor
namespace Go.Proofs.YtonhpkigoplmaaaGreatDoor
open Go.RowKit Go.Extern Ieee

end Go.Proofs.YtonhpkigoplmaaaGreatDoor
namespace Go.Proofs.YtonhpkigoplmaaaGreatDoor
open Go.RowKit Go.Extern
attribute [local go_sem] run_store_float

end Go.Proofs.YtonhpkigoplmaaaGreatDoor
namespace Go.Proofs.YtonhpkigoplmaaaGreatDoor
open Go.RowKit

theorem hid {p : Prop} (h : p) : Hid p := h

end Go.Proofs.YtonhpkigoplmaaaGreatDoor
namespace Go.Proofs.YtonhpkigoplmaaaGreatDoor
open Go.RowKit


end Go.Proofs.YtonhpkigoplmaaaGreatDoor
namespace Go.Proofs.YtonhpkigoplmaaaGreatDoor
open Go.RowKit

/-- Boxes as cells. -/
def bvs : List (Nat × Nat) → List Value
  | [] => []
  | p :: l => .int .u64 (p.1 : Int) :: .int .u64 (p.2 : Int) :: bvs l

theorem bvs_append : ∀ a b : List (Nat × Nat), bvs (a ++ b) = bvs a ++ bvs b
  | [], b => rfl
  | p :: a, b => by rw [List.cons_append]; show _ :: _ :: bvs (a ++ b) = _; rw [bvs_append a b]; rfl

theorem ownsRow_mono {W W' : World} {B B' T k : Nat} {v : Value} {n : Nat} {xs : List Value} (h : W.ownsRow B T k v n xs) (hb : Below W.heap.size W W') (hB : B' ≤ B) : W'.ownsRow B' T k v n xs :=
  ⟨h.1, h.2.imp id (fun ⟨g, cap, cur, e, hg, hh, r⟩ => ⟨g, cap, cur, e, Nat.le_trans hB hg, blk_below hh hb, r⟩)⟩

end Go.Proofs.YtonhpkigoplmaaaGreatDoor
namespace Go.Proofs.YtonhpkigoplmaaaGreatDoor
open Go.RowKit

/-- Boxes as they lie in memory. -/
def BxV (W : World) (ao : Option Addr) (n : Nat) (xs : Nat → Nat × Nat) : Prop :=
  n = 0 ∨ ∃ g off, ao = some ⟨g, off, none⟩ ∧ g < W.heap.size ∧ ∀ i, i < n → W.cell? ⟨g, off + i * 2, none⟩ = some (.int .u64 ((xs i).1 : Int)) ∧ W.cell? ⟨g, off + i * 2 + 1, none⟩ = some (.int .u64 ((xs i).2 : Int))

theorem bvs_get : ∀ (l : List (Nat × Nat)) (i : Nat), i < l.length → (bvs l)[i * 2]? = some (.int .u64 ((l.getD i (0, 0)).1 : Int)) ∧ (bvs l)[i * 2 + 1]? = some (.int .u64 ((l.getD i (0, 0)).2 : Int))
  | [], i, h => by simp at h
  | p :: l, 0, _ => ⟨rfl, rfl⟩
  | p :: l, i + 1, h => by
    have := bvs_get l i (by simp at h; omega)
    rw [show (i + 1) * 2 = i * 2 + 1 + 1 by omega, show i * 2 + 1 + 1 + 1 = (i * 2 + 1) + 1 + 1 by omega]
    exact this

theorem BxV.of_owns {w : World} {v : Value} {B T : Nat} (l : List (Nat × Nat)) (h : w.ownsRow B T 2 v l.length (bvs l)) : ∃ ao c, v = .slice ao l.length c ∧ l.length ≤ c ∧ BxV w ao l.length (fun i => l.getD i (0, 0)) := by
  obtain ⟨_, h2⟩ := h
  rcases h2 with ⟨rfl, h0⟩ | ⟨g, cap, cur, rfl, hg, hh, hn, hcap, hs, ht⟩
  · rw [h0]; exact ⟨none, 0, rfl, Nat.le_refl _, .inl rfl⟩
  · refine ⟨_, _, rfl, hn, .inr ⟨g, 0, rfl, (Array.getElem?_eq_some_iff.1 hh).1, fun i hi => ?_⟩⟩
    have hb := bvs_get l i hi
    rw [← ht, List.getElem?_take, List.getElem?_take, if_pos (by omega), if_pos (by omega), Array.getElem?_toList, Array.getElem?_toList] at hb
    rw [cell_of_cur hh, cell_of_cur hh, Nat.zero_add]
    exact hb

end Go.Proofs.YtonhpkigoplmaaaGreatDoor
namespace Go.Proofs.YtonhpkigoplmaaaGreatDoor
open Go.RowKit Go.Extern Ieee

theorem less_val (x y : Bool × Nat × Int) : lessT x y = true ↔ valQ x < valQ y := by
  have hx := means_low2 x (e := min x.2.2 y.2.2) (by omega)
  have hy := means_low2 y (e := min x.2.2 y.2.2) (by omega)
  rw [lessT_means hx hy, val_means hx, val_means hy]
  have p := pw_pos (min x.2.2 y.2.2)
  generalize sg x.1 (x.2.1 * 2 ^ (x.2.2 - min x.2.2 y.2.2).toNat) = a
  generalize sg y.1 (y.2.1 * 2 ^ (y.2.2 - min x.2.2 y.2.2).toNat) = b
  generalize pw (min x.2.2 y.2.2) = c at *
  constructor
  · intro h
    exact Rat.mul_lt_mul_of_pos_right (Rat.intCast_lt_intCast.2 h) p
  · intro h
    apply Decidable.byContradiction
    intro hc
    have h1 : (b : Rat) ≤ (a : Rat) := Rat.intCast_le_intCast.2 (by omega)
    have h2 := mul_le_r (Rat.le_of_lt p) h1
    grind

/-- An end that is 0, or of an amount from 2^-30 to 2^30. -/
def fairT (x : Bool × Nat × Int) : Bool := decide (valQ x = 0) || (decide (pw (-30) ≤ ab (valQ x)) && decide (ab (valQ x) ≤ pw 30))

/-- A box's interval. -/
def cB (p : Nat × Nat) : Nat × Nat := ((makeN p.1 p.2).1, (makeN p.1 p.2).2.1)
/-- One to four equations, and as many boxes. -/
def Shp (na d n : Nat) : Prop := n ≠ 0 ∧ n ≤ 4 ∧ d ≠ 0 ∧ (n = 1 ∧ na = 1 ∨ n ≠ 1 ∧ d = n ∧ na = n * n)
end Go.Proofs.YtonhpkigoplmaaaGreatDoor
namespace Go.Proofs.YtonhpkigoplmaaaGreatDoor
open Go.RowKit Go.Extern Ieee

/-- Where enclose.plainBelow goes from a place. -/
def pbP (p : Int) : Int := if 0 < p ∧ p < 553942754166571008 then 0 else if p < 0 ∧ -553942754166571008 < p then -553942754166571008 else p

theorem pbP_mono {p q : Int} (h : p ≤ q) : pbP p ≤ pbP q := by
  unfold pbP; repeat' split
  all_goals omega

theorem pbP_le (p : Int) : pbP p ≤ p := by
  unfold pbP; repeat' split
  all_goals omega

/-- The number at a plain place. -/
def pq (p : Int) : Rat := if p = 0 then 0 else if p < 0 then -rvQ (-p) else rvQ p

theorem pq_neg (p : Int) : pq (-p) = - pq p := by
  unfold pq
  rcases (show p < 0 ∨ p = 0 ∨ 0 < p by omega) with h | h | h
  · rw [if_neg (by omega), if_neg (by omega), if_neg (by omega), if_pos h]; grind
  · rw [if_pos (by omega), if_pos h]; grind
  · rw [if_neg (by omega), if_pos (by omega), if_neg (by omega), if_neg (by omega), Int.neg_neg]

theorem pq_mono {p q : Int} (h : p ≤ q) : pq p ≤ pq q := by
  unfold pq
  have h1 := rv_pos p
  have h2 := rv_pos q
  have h3 := rv_pos (-p)
  have h4 := rv_pos (-q)
  rcases (show p < 0 ∨ p = 0 ∨ 0 < p by omega) with a | a | a <;> rcases (show q < 0 ∨ q = 0 ∨ 0 < q by omega) with b | b | b
  · rw [if_neg (by omega), if_pos a, if_neg (by omega), if_pos b]
    have := rv_mono (r := -q) (t := -p) (by omega)
    grind
  · rw [if_neg (by omega), if_pos a, if_pos b]; grind
  · rw [if_neg (by omega), if_pos a, if_neg (by omega), if_neg (by omega)]; grind
  · omega
  · rw [if_pos a, if_pos b]; grind
  · rw [if_pos a, if_neg (by omega), if_neg (by omega)]; grind
  · omega
  · omega
  · rw [if_neg (by omega), if_neg (by omega), if_neg (by omega), if_neg (by omega)]; exact rv_mono h

theorem pq_lt {p q : Int} (h : p < q) : pq p < pq q := by
  unfold pq
  have h1 := rv_pos p
  have h2 := rv_pos q
  have h3 := rv_pos (-p)
  have h4 := rv_pos (-q)
  have m : ∀ r t : Int, r < t → rvQ r < rvQ t := by
    intro r t ht
    have a := (rv_succ r).1
    have b := rv_mono (r := r + 1) (t := t) (by omega)
    grind
  rcases (show p < 0 ∨ p = 0 ∨ 0 < p by omega) with a | a | a <;> rcases (show q < 0 ∨ q = 0 ∨ 0 < q by omega) with b | b | b
  · rw [if_neg (by omega), if_pos a, if_neg (by omega), if_pos b]
    have := m (-q) (-p) (by omega)
    grind
  · rw [if_neg (by omega), if_pos a, if_pos b]; grind
  · rw [if_neg (by omega), if_pos a, if_neg (by omega), if_neg (by omega)]; grind
  · omega
  · omega
  · rw [if_pos a, if_neg (by omega), if_neg (by omega)]; exact h2
  · omega
  · omega
  · rw [if_neg (by omega), if_neg (by omega), if_neg (by omega), if_neg (by omega)]; exact m p q h

theorem pq_word {p : Int} (h : plP p = true) : valQ (plT (wdP p)) = pq p := by
  unfold plP at h
  rw [decide_eq_true_eq] at h
  unfold pq
  by_cases h0 : p = 0
  · rw [if_pos h0, h0, wdP_zero, plT_zero]; exact val_zero rfl
  · rw [if_neg h0]
    have hp : plT (wdP p) = (decide (p < 0), p.natAbs % 4503599627370496 + 4503599627370496, ((p.natAbs / 4503599627370496 : Nat) : Int) - 1075) := by
      unfold plT wdP
      rw [plT_wd _ (by omega) (by omega)]; rfl
    rw [hp]
    have hr : rvQ (p.natAbs : Int) = ((p.natAbs % 4503599627370496 + 4503599627370496 : Nat) : Rat) * pw (((p.natAbs / 4503599627370496 : Nat) : Int) - 1075) := by
      rw [rv_at (m := ((p.natAbs % 4503599627370496 + 4503599627370496 : Nat) : Int)) (e := ((p.natAbs / 4503599627370496 : Nat) : Int) - 1075) (by omega) (by omega) (by omega), Rat.intCast_natCast]
    unfold valQ sg
    simp only
    by_cases hn : p < 0
    · rw [decide_eq_true hn, if_pos rfl, if_pos hn, show -p = (p.natAbs : Int) by omega, hr, Rat.intCast_neg, Rat.intCast_natCast]; grind
    · rw [decide_eq_false hn, if_neg Bool.false_ne_true, if_neg hn, show rvQ p = rvQ (p.natAbs : Int) by congr 1; omega, hr, Rat.intCast_natCast]

theorem rv_min : rvQ 553942754166571008 = pw (-900) := by
  rw [rv_at (m := 4503599627370496) (e := -952) (by decide) (by decide) (by decide)]
  rw [show ((4503599627370496 : Int) : Rat) = pw ((52 : Nat) : Int) by rw [pw_nat]; rfl, ← pw_add]; rfl
theorem rv_top : rvQ 8655918483806093312 = pw 899 := by
  rw [rv_at (m := 4503599627370496) (e := 847) (by decide) (by decide) (by decide)]
  rw [show ((4503599627370496 : Int) : Rat) = pw ((52 : Nat) : Int) by rw [pw_nat]; rfl, ← pw_add]; rfl

theorem end_low {x : Bool × Nat × Int} {q : Rat} (h : BR x q) :
    (-8660422083433463808 ≤ posV x (-1) → pq (pbP (posV x (-1))) ≤ q) ∧ (bd (pw 899) q → plP (pbP (posV x (-1))) = true ∧ Rnd (pw (-900)) (pq (pbP (posV x (-1)))) q) := by
  have e0 := eps_pos
  have p0 := pw_pos (-900)
  rcases h with ⟨h0, rfl⟩ | ⟨h0, E, rfl, h1, h2⟩
  · have : posV x (-1) = 0 := by unfold posV; rw [if_pos h0]
    rw [this]
    have e1 : pbP 0 = 0 := rfl
    have e2 : pq 0 = 0 := by unfold pq; rw [if_pos rfl]
    rw [e1, e2]
    refine ⟨fun _ => by grind, fun _ => ⟨rfl, fun B hB => ?_, fun _ => rfl⟩⟩
    have := bd_nonneg hB
    have := Rat.mul_nonneg (Rat.le_of_lt e0) this
    unfold bd; constructor <;> grind
  · have hp : posV x (-1) = sgI x.1 (clampR (endR x.1 x.2.1 x.2.2 (-1))) := by unfold posV; rw [if_neg h0]
    have hend : endR x.1 x.2.1 x.2.2 (-1) = rung x.2.1 x.2.2 + if x.1 && inex x.2.1 then 1 else 0 := by unfold endR; rw [offS_down]
    rw [hp, hend]
    have r0 := rv_pos (rung x.2.1 x.2.2)
    have rs := rv_succ (rung x.2.1 x.2.2)
    have hE0 : 0 < E := by grind
    have hi : E ≤ rvQ (rung x.2.1 x.2.2 + 1) := by
      have : rvQ (rung x.2.1 x.2.2 + if inex x.2.1 then 1 else 0) ≤ rvQ (rung x.2.1 x.2.2 + 1) := rv_mono (by split <;> omega)
      grind
    have htop : E ≤ pw 899 → rung x.2.1 x.2.2 ≤ 8655918483806093312 := by
      intro hE
      apply Decidable.byContradiction
      intro hc
      have a := rv_mono (r := 8655918483806093312 + 1) (t := rung x.2.1 x.2.2) (by omega)
      have b := (rv_succ 8655918483806093312).1
      rw [rv_top] at b
      grind
    cases hs : x.1
    · -- above 0
      simp only [Bool.false_and, Bool.false_eq_true, if_false, Int.add_zero]
      generalize rung x.2.1 x.2.2 = r at *
      have hsg : sgI false (clampR r) = clampR r := by unfold sgI; rw [if_neg Bool.false_ne_true]
      rw [hsg]
      have sh : ∀ y : Rat, y ≤ E → (∀ B, bd B E → bd (eps * B + pw (-900)) (y - E) ) → (Rnd (pw (-900)) y E) := fun y _ hB => ⟨hB, fun hz => by grind⟩
      rcases clampR_cases r with ⟨c1, c2⟩ | ⟨c1, c2⟩ | ⟨c1, c3, c2⟩
      · rw [c2]
        have e1 : pbP 553942754166571007 = 0 := by decide
        have e2 : pq 0 = 0 := by unfold pq; rw [if_pos rfl]
        rw [e1, e2]
        refine ⟨fun _ => by grind, fun _ => ⟨rfl, sh 0 (by grind) fun B hB => ?_⟩⟩
        have hm : rvQ (r + 1) ≤ rvQ 553942754166571008 := rv_mono (by omega)
        rw [rv_min] at hm
        have := Rat.mul_nonneg (Rat.le_of_lt e0) (bd_nonneg hB)
        unfold bd; constructor <;> grind
      · rw [c2]
        have hq : pq (pbP 8660422083433463809) ≤ E := by
          have e1 : pbP 8660422083433463809 = 8660422083433463809 := by decide
          have e2 : pq 8660422083433463809 = rvQ 8660422083433463809 := by unfold pq; rw [if_neg (by decide), if_neg (by decide)]
          rw [e1, e2]
          have := rv_mono (r := 8660422083433463809) (t := r) (by omega)
          grind
        refine ⟨fun _ => hq, fun hB => ?_⟩
        have := htop hB.2
        omega
      · rw [c2]
        have e1 : pbP r = r := by unfold pbP; rw [if_neg (by omega), if_neg (by omega)]
        have e2 : pq r = rvQ r := by unfold pq; rw [if_neg (by omega), if_neg (by omega)]
        rw [e1, e2]
        refine ⟨fun _ => h1, fun _ => ⟨by unfold plP; exact decide_eq_true (by omega), sh _ h1 fun B hB => ?_⟩⟩
        have k1 := mul_le_l (Rat.le_of_lt e0) hB.2
        have k2 := mul_le_l (Rat.le_of_lt e0) h1
        unfold bd; constructor <;> grind
    · -- below 0
      simp only [Bool.true_and, if_true]
      have hc : ∀ b : Bool, (0 : Int) ≤ (if b then 1 else 0) ∧ (if b then (1 : Int) else 0) ≤ 1 := by intro b; cases b <;> decide
      have hcx := hc (inex x.2.1)
      generalize (if inex x.2.1 = true then (1 : Int) else 0) = c at *
      generalize rung x.2.1 x.2.2 = r at *
      have hsg : sgI true (clampR (r + c)) = -clampR (r + c) := by unfold sgI; rw [if_pos rfl]
      rw [hsg]
      have hm1 : rvQ (r + c) ≤ rvQ (r + 1) := rv_mono (by omega)
      rcases clampR_cases (r + c) with ⟨c1, c2⟩ | ⟨c1, c2⟩ | ⟨c1, c3, c2⟩
      · rw [c2]
        have e1 : pbP (-553942754166571007) = -553942754166571008 := by decide
        have e2 : pq (-553942754166571008) = -rvQ 553942754166571008 := by unfold pq; rw [if_neg (by decide), if_pos (by decide)]; rfl
        rw [e1, e2, rv_min]
        have hm : rvQ (r + c) ≤ rvQ 553942754166571008 := rv_mono (by omega)
        rw [rv_min] at hm
        refine ⟨fun _ => by grind, fun _ => ⟨by decide, fun B hB => ?_, fun hz => by grind⟩⟩
        have := Rat.mul_nonneg (Rat.le_of_lt e0) (bd_nonneg hB)
        unfold bd; constructor <;> grind
      · rw [c2]
        refine ⟨fun hc => absurd hc (by decide), fun hB => ?_⟩
        have := htop (by unfold bd at hB; grind)
        omega
      · rw [c2]
        have e1 : pbP (-(r + c)) = -(r + c) := by unfold pbP; rw [if_neg (by omega), if_neg (by omega)]
        have e2 : pq (-(r + c)) = -rvQ (r + c) := by unfold pq; rw [if_neg (by omega), if_pos (by omega), Int.neg_neg]
        rw [e1, e2]
        refine ⟨fun _ => by grind, fun _ => ⟨by unfold plP; exact decide_eq_true (by omega), fun B hB => ?_, fun hz => by grind⟩⟩
        have k1 := mul_le_l (Rat.le_of_lt e0) (show E ≤ B by unfold bd at hB; grind)
        have k2 := mul_le_l (Rat.le_of_lt e0) h1
        unfold bd; constructor <;> grind

theorem posV_neg (x : Bool × Nat × Int) : posV (negT x) (-1) = - posV x 1 := by
  obtain ⟨s, n, e⟩ := x
  unfold posV negT
  simp only
  by_cases h0 : n = 0
  · rw [if_pos h0, if_pos h0]; rfl
  · rw [if_neg h0, if_neg h0]
    have : negS s n = !s := by unfold negS; rw [decide_eq_true h0, Bool.and_true]
    rw [this]
    have he : endR (!s) n e (-1) = endR s n e 1 := by unfold endR; rw [offS_down, offS_up]
    rw [he]
    unfold sgI
    cases s <;> simp

/-- The upper end. -/
def paP (p : Int) : Int := -pbP (-p)

theorem plP_neg (p : Int) : plP (-p) = plP p := by
  unfold plP
  rw [Int.natAbs_neg]
  apply decide_eq_decide.2
  constructor <;> intro h <;> omega

theorem end_high {x : Bool × Nat × Int} {q : Rat} (h : BR x q) :
    (posV x 1 ≤ 8660422083433463808 → q ≤ pq (paP (posV x 1))) ∧ (bd (pw 899) q → plP (paP (posV x 1)) = true ∧ Rnd (pw (-900)) (pq (paP (posV x 1))) q) := by
  have := end_low (br_neg h)
  rw [posV_neg] at this
  unfold paP
  rw [plP_neg, pq_neg]
  obtain ⟨k1, k2⟩ := this
  refine ⟨fun hp => by have := k1 (by omega); grind, fun hB => ?_⟩
  obtain ⟨a, b⟩ := k2 (bd_neg hB)
  refine ⟨a, fun B hB => ?_, fun hz => ?_⟩
  · have := b.near B (bd_neg hB)
    have := bd_neg this
    rwa [show -(pq (pbP (-posV x 1)) - -q) = -pq (pbP (-posV x 1)) - q by grind] at this
  · have := b.zero (by grind)
    grind
end Go.Proofs.YtonhpkigoplmaaaGreatDoor
namespace Go.Proofs.YtonhpkigoplmaaaGreatDoor
open Go.RowKit Go.Extern Ieee

/-- A word's number. -/
def valW (w : Nat) : Rat := valQ (plT w)

/-- widened, by two places. -/
def wideX (p q : Int) : Option (Nat × Nat) := if plP (pbP p) = true ∧ plP (paP q) = true then some (wdP (pbP p), wdP (paP q)) else none

def cornX (f : Bool × Nat × Int → Bool × Nat × Int → Bool × Nat × Int) (a b : Nat × Nat) : Option (Nat × Nat) :=
  wideX (min (min (min (posV (f (plT a.1) (plT b.1)) (-1)) (posV (f (plT a.1) (plT b.2)) (-1))) (posV (f (plT a.2) (plT b.1)) (-1))) (posV (f (plT a.2) (plT b.2)) (-1)))
    (max (max (max (posV (f (plT a.1) (plT b.1)) 1) (posV (f (plT a.1) (plT b.2)) 1)) (posV (f (plT a.2) (plT b.1)) 1)) (posV (f (plT a.2) (plT b.2)) 1))
def muX (a b : Nat × Nat) : Option (Nat × Nat) := cornX prodN a b
def quX (a b : Nat × Nat) : Option (Nat × Nat) := cornX quoN a b
def suX (a b : Nat × Nat) : Option (Nat × Nat) := wideX (posV (sumT (plT a.1) (negT (plT b.2))) (-1)) (posV (sumT (plT a.2) (negT (plT b.1))) 1)

theorem fr_pl {p : Int} (h : plP p = true) : FR (wdP p) p := by
  unfold plP at h
  rw [decide_eq_true_eq] at h
  unfold wdP
  by_cases h0 : p = 0
  · subst h0; exact FR_zero
  · have e1 : wd (decide (p < 0)) p.natAbs % 9223372036854775808 = p.natAbs := by unfold wd; split <;> omega
    refine ⟨by unfold wd; split <;> omega, by unfold wd; split <;> omega, by omega, ?_⟩
    unfold posF
    rw [e1, if_neg (by omega)]
    have hc : clampR ((p.natAbs : Nat) : Int) = p.natAbs := by unfold clampR; rw [if_neg (by omega), if_neg (by omega)]
    rw [hc]
    unfold sgI
    by_cases hn : p < 0
    · have : 9223372036854775808 ≤ wd (decide (p < 0)) p.natAbs := by unfold wd; rw [decide_eq_true hn, if_pos rfl]; omega
      rw [decide_eq_true this, if_pos rfl]; omega
    · have : ¬ 9223372036854775808 ≤ wd (decide (p < 0)) p.natAbs := by unfold wd; rw [decide_eq_false hn, if_neg Bool.false_ne_true]; omega
      rw [decide_eq_false this, if_neg Bool.false_ne_true]; omega

theorem iv_pl {p q : Int} (h1 : plP p = true) (h2 : plP q = true) (h : p ≤ q) : Iv (wdP p) (wdP q) := by
  have f1 := fr_pl h1
  have f2 := fr_pl h2
  exact ⟨f1.lt, f2.lt, f1.nz, f2.nz, plT_some (by rw [f1.plain]; exact h1), plT_some (by rw [f2.plain]; exact h2), by rw [f1.pos, f2.pos]; exact h⟩

theorem Iv.w1 {l h : Nat} (i : Iv l h) : valW l = pq (posF l) := by
  unfold valW
  have := pq_word i.q1
  rwa [← i.f1.word i.q1] at this
theorem Iv.w2 {l h : Nat} (i : Iv l h) : valW h = pq (posF h) := by
  unfold valW
  have := pq_word i.q2
  rwa [← i.f2.word i.q2] at this
theorem Iv.vle {l h : Nat} (i : Iv l h) : valW l ≤ valW h := by rw [i.w1, i.w2]; exact pq_mono i.le

theorem plP_bounds {p : Int} (h : plP p = true) : -8660422083433463808 ≤ p ∧ p ≤ 8660422083433463808 := by
  unfold plP at h
  rw [decide_eq_true_eq] at h
  omega

theorem paP_mono {p q : Int} (h : p ≤ q) : paP p ≤ paP q := by unfold paP; have := pbP_mono (p := -q) (q := -p) (by omega); omega
theorem le_paP (p : Int) : p ≤ paP p := by unfold paP; have := pbP_le (-p); omega

/-- A widened interval around numbers. -/
theorem wide_some {p q : Int} {c : Nat × Nat} (h : wideX p q = some c) (hpq : p ≤ q) : Iv c.1 c.2 ∧ valW c.1 = pq (pbP p) ∧ valW c.2 = pq (paP q) ∧ -8660422083433463808 ≤ p ∧ q ≤ 8660422083433463808 := by
  unfold wideX at h
  split at h
  · rename_i hp
    obtain rfl := Option.some.inj h
    have b1 := plP_bounds hp.1
    have b2 := plP_bounds hp.2
    have l1 := pbP_le p
    have l2 := le_paP q
    exact ⟨iv_pl hp.1 hp.2 (by omega), pq_word hp.1, pq_word hp.2, by omega, by omega⟩
  · cases h

/-- Below all of the corners, below all between. -/
theorem corner_low {a1 a2 b1 b2 x y L : Rat} (hx : a1 ≤ x ∧ x ≤ a2) (hy : b1 ≤ y ∧ y ≤ b2) (h1 : L ≤ a1 * b1) (h2 : L ≤ a1 * b2) (h3 : L ≤ a2 * b1) (h4 : L ≤ a2 * b2) : L ≤ x * y := by
  have key : ∀ b, L ≤ a1 * b → L ≤ a2 * b → L ≤ x * b := by
    intro b k1 k2
    rcases (show 0 ≤ b ∨ b ≤ 0 by grind) with hb | hb
    · have := mul_le_r hb hx.1; grind
    · have := mul_le_r (show 0 ≤ -b by grind) hx.2; grind
  have k1 := key b1 h1 h3
  have k2 := key b2 h2 h4
  rcases (show 0 ≤ x ∨ x ≤ 0 by grind) with h | h
  · have := mul_le_l h hy.1; grind
  · have := mul_le_l (show 0 ≤ -x by grind) hy.2; grind
theorem corner_high {a1 a2 b1 b2 x y L : Rat} (hx : a1 ≤ x ∧ x ≤ a2) (hy : b1 ≤ y ∧ y ≤ b2) (h1 : a1 * b1 ≤ L) (h2 : a1 * b2 ≤ L) (h3 : a2 * b1 ≤ L) (h4 : a2 * b2 ≤ L) : x * y ≤ L := by
  have := corner_low (a1 := -a2) (a2 := -a1) (x := -x) (L := -L) (by grind) hy (by grind) (by grind) (by grind) (by grind)
  grind

theorem min4_pick (a b c d : Int) : min (min (min a b) c) d = a ∨ min (min (min a b) c) d = b ∨ min (min (min a b) c) d = c ∨ min (min (min a b) c) d = d := by omega
theorem max4_pick (a b c d : Int) : max (max (max a b) c) d = a ∨ max (max (max a b) c) d = b ∨ max (max (max a b) c) d = c ∨ max (max (max a b) c) d = d := by omega

/-- The corners: their ends, and near to which they are. -/
theorem corn_ends {f : Bool × Nat × Int → Bool × Nat × Int → Bool × Nat × Int} {a b : Nat × Nat} {g : Nat → Nat → Rat} (hb : ∀ i j, (i = a.1 ∨ i = a.2) → (j = b.1 ∨ j = b.2) → BR (f (plT i) (plT j)) (g i j)) :
    (∀ c, cornX f a b = some c → Iv c.1 c.2 ∧ ∀ i j, (i = a.1 ∨ i = a.2) → (j = b.1 ∨ j = b.2) → valW c.1 ≤ g i j ∧ g i j ≤ valW c.2) ∧
    (∀ B, (∀ i j, (i = a.1 ∨ i = a.2) → (j = b.1 ∨ j = b.2) → bd B (g i j)) → B ≤ pw 899 → ∃ c, cornX f a b = some c ∧ Iv c.1 c.2 ∧ (∃ i j, (i = a.1 ∨ i = a.2) ∧ (j = b.1 ∨ j = b.2) ∧ Rnd (pw (-900)) (valW c.1) (g i j)) ∧ (∃ i j, (i = a.1 ∨ i = a.2) ∧ (j = b.1 ∨ j = b.2) ∧ Rnd (pw (-900)) (valW c.2) (g i j))) := by
  unfold cornX
  have p : ∀ i j, (i = a.1 ∨ i = a.2) → (j = b.1 ∨ j = b.2) → posV (f (plT i) (plT j)) (-1) ≤ posV (f (plT i) (plT j)) 1 := fun i j _ _ => posV_le _
  have lows : ∀ i j, (i = a.1 ∨ i = a.2) → (j = b.1 ∨ j = b.2) → min (min (min (posV (f (plT a.1) (plT b.1)) (-1)) (posV (f (plT a.1) (plT b.2)) (-1))) (posV (f (plT a.2) (plT b.1)) (-1))) (posV (f (plT a.2) (plT b.2)) (-1)) ≤ posV (f (plT i) (plT j)) (-1) := by
    rintro i j (rfl | rfl) (rfl | rfl) <;> omega
  have highs : ∀ i j, (i = a.1 ∨ i = a.2) → (j = b.1 ∨ j = b.2) → posV (f (plT i) (plT j)) 1 ≤ max (max (max (posV (f (plT a.1) (plT b.1)) 1) (posV (f (plT a.1) (plT b.2)) 1)) (posV (f (plT a.2) (plT b.1)) 1)) (posV (f (plT a.2) (plT b.2)) 1) := by
    rintro i j (rfl | rfl) (rfl | rfl) <;> omega
  have pickL : ∃ i j, (i = a.1 ∨ i = a.2) ∧ (j = b.1 ∨ j = b.2) ∧ min (min (min (posV (f (plT a.1) (plT b.1)) (-1)) (posV (f (plT a.1) (plT b.2)) (-1))) (posV (f (plT a.2) (plT b.1)) (-1))) (posV (f (plT a.2) (plT b.2)) (-1)) = posV (f (plT i) (plT j)) (-1) := by
    rcases min4_pick (posV (f (plT a.1) (plT b.1)) (-1)) (posV (f (plT a.1) (plT b.2)) (-1)) (posV (f (plT a.2) (plT b.1)) (-1)) (posV (f (plT a.2) (plT b.2)) (-1)) with h | h | h | h
    · exact ⟨_, _, .inl rfl, .inl rfl, h⟩
    · exact ⟨_, _, .inl rfl, .inr rfl, h⟩
    · exact ⟨_, _, .inr rfl, .inl rfl, h⟩
    · exact ⟨_, _, .inr rfl, .inr rfl, h⟩
  have pickH : ∃ i j, (i = a.1 ∨ i = a.2) ∧ (j = b.1 ∨ j = b.2) ∧ max (max (max (posV (f (plT a.1) (plT b.1)) 1) (posV (f (plT a.1) (plT b.2)) 1)) (posV (f (plT a.2) (plT b.1)) 1)) (posV (f (plT a.2) (plT b.2)) 1) = posV (f (plT i) (plT j)) 1 := by
    rcases max4_pick (posV (f (plT a.1) (plT b.1)) 1) (posV (f (plT a.1) (plT b.2)) 1) (posV (f (plT a.2) (plT b.1)) 1) (posV (f (plT a.2) (plT b.2)) 1) with h | h | h | h
    · exact ⟨_, _, .inl rfl, .inl rfl, h⟩
    · exact ⟨_, _, .inl rfl, .inr rfl, h⟩
    · exact ⟨_, _, .inr rfl, .inl rfl, h⟩
    · exact ⟨_, _, .inr rfl, .inr rfl, h⟩
  generalize min (min (min (posV (f (plT a.1) (plT b.1)) (-1)) (posV (f (plT a.1) (plT b.2)) (-1))) (posV (f (plT a.2) (plT b.1)) (-1))) (posV (f (plT a.2) (plT b.2)) (-1)) = P at *
  generalize max (max (max (posV (f (plT a.1) (plT b.1)) 1) (posV (f (plT a.1) (plT b.2)) 1)) (posV (f (plT a.2) (plT b.1)) 1)) (posV (f (plT a.2) (plT b.2)) 1) = Q at *
  have hPQ : P ≤ Q := by
    have a1 := lows a.1 b.1 (.inl rfl) (.inl rfl)
    have a2 := highs a.1 b.1 (.inl rfl) (.inl rfl)
    have a3 := p a.1 b.1 (.inl rfl) (.inl rfl)
    omega
  constructor
  · intro c hc
    obtain ⟨iv, v1, v2, h1, h2⟩ := wide_some hc hPQ
    refine ⟨iv, fun i j hi hj => ?_⟩
    have l := lows i j hi hj
    have h := highs i j hi hj
    have e1 := (end_low (hb i j hi hj)).1 (by omega)
    have e2 := (end_high (hb i j hi hj)).1 (by omega)
    have m1 := pq_mono (pbP_mono l)
    have m2 := pq_mono (paP_mono h)
    rw [v1, v2]
    constructor <;> grind
  · intro B hB hBig
    obtain ⟨i, j, hi, hj, rfl⟩ := pickL
    obtain ⟨k, l, hk, hl, rfl⟩ := pickH
    obtain ⟨q1, r1⟩ := (end_low (hb i j hi hj)).2 (bd_le (hB i j hi hj) hBig)
    obtain ⟨q2, r2⟩ := (end_high (hb k l hk hl)).2 (bd_le (hB k l hk hl) hBig)
    have hc : wideX (posV (f (plT i) (plT j)) (-1)) (posV (f (plT k) (plT l)) 1) = some (wdP (pbP (posV (f (plT i) (plT j)) (-1))), wdP (paP (posV (f (plT k) (plT l)) 1))) := by unfold wideX; rw [if_pos ⟨q1, q2⟩]
    obtain ⟨iv, v1, v2, _, _⟩ := wide_some hc hPQ
    refine ⟨_, hc, iv, ⟨i, j, hi, hj, ?_⟩, ⟨k, l, hk, hl, ?_⟩⟩
    · rw [v1]; exact r1
    · rw [v2]; exact r2

def memW (a : Nat × Nat) (x : Rat) : Prop := valW a.1 ≤ x ∧ x ≤ valW a.2
def ivW (a : Nat × Nat) : Prop := Iv a.1 a.2

theorem br_mul (i j : Nat) : BR (prodN (plT i) (plT j)) (valW i * valW j) := by
  have := br_exact (prodN (plT i) (plT j))
  rwa [val_prod] at this
theorem br_sub (i j : Nat) : BR (sumT (plT i) (negT (plT j))) (valW i - valW j) := by
  have := br_exact (sumT (plT i) (negT (plT j)))
  rw [val_sum, val_neg] at this
  rwa [show valQ (plT i) + -valQ (plT j) = valW i - valW j by unfold valW; grind] at this

theorem mu_mem {a b c : Nat × Nat} {x y : Rat} (h : muX a b = some c) (hx : memW a x) (hy : memW b y) : memW c (x * y) := by
  have := (corn_ends (f := prodN) (a := a) (b := b) (g := fun i j => valW i * valW j) (fun i j _ _ => br_mul i j)).1 c h
  obtain ⟨_, k⟩ := this
  have k1 := k a.1 b.1 (.inl rfl) (.inl rfl)
  have k2 := k a.1 b.2 (.inl rfl) (.inr rfl)
  have k3 := k a.2 b.1 (.inr rfl) (.inl rfl)
  have k4 := k a.2 b.2 (.inr rfl) (.inr rfl)
  exact ⟨corner_low hx hy k1.1 k2.1 k3.1 k4.1, corner_high hx hy k1.2 k2.2 k3.2 k4.2⟩

theorem mu_iv {a b c : Nat × Nat} (h : muX a b = some c) : ivW c := ((corn_ends (f := prodN) (a := a) (b := b) (g := fun i j => valW i * valW j) (fun i j _ _ => br_mul i j)).1 c h).1

theorem su_le {a b : Nat × Nat} (ha : ivW a) (hb : ivW b) : posV (sumT (plT a.1) (negT (plT b.2))) (-1) ≤ posV (sumT (plT a.2) (negT (plT b.1))) 1 := by
  have h1 := posV_le (sumT (plT a.1) (negT (plT b.2)))
  have h2 : leV (sumT (plT a.1) (negT (plT b.2))) (sumT (plT a.2) (negT (plT b.1))) := by
    have A := iv_leV ha
    have B := iv_leV hb
    obtain ⟨x, hx⟩ : ∃ x, x = plT a.1 := ⟨_, rfl⟩
    obtain ⟨y, hy⟩ : ∃ y, y = plT a.2 := ⟨_, rfl⟩
    obtain ⟨z, hz⟩ : ∃ z, z = plT b.1 := ⟨_, rfl⟩
    obtain ⟨t, ht⟩ : ∃ t, t = plT b.2 := ⟨_, rfl⟩
    rw [← hx, ← hy] at A
    rw [← hz, ← ht] at B
    rw [← hx, ← hy, ← hz, ← ht]
    have e : ∃ e : Int, e ≤ x.2.2 ∧ e ≤ y.2.2 ∧ e ≤ z.2.2 ∧ e ≤ t.2.2 := ⟨min (min x.2.2 y.2.2) (min z.2.2 t.2.2), by omega, by omega, by omega, by omega⟩
    obtain ⟨e, e1, e2, e3, e4⟩ := e
    have lA := leV_means2 A e1 e2
    have lB := leV_means2 B e3 e4
    exact leV_means (sumN_means (means_low2 x e1) (means_neg (means_low2 t e4))) (sumN_means (means_low2 y e2) (means_neg (means_low2 z e3))) (by omega)
  have h3 := posV_mono 1 (.inr rfl) h2
  omega

theorem su_mem {a b c : Nat × Nat} {x y : Rat} (ia : ivW a) (ib : ivW b) (h : suX a b = some c) (hx : memW a x) (hy : memW b y) : memW c (x - y) := by
  obtain ⟨iv, v1, v2, h1, h2⟩ := wide_some h (su_le ia ib)
  have e1 := (end_low (br_sub a.1 b.2)).1 h1
  have e2 := (end_high (br_sub a.2 b.1)).1 h2
  unfold memW at *
  rw [v1, v2]
  constructor <;> grind

theorem su_iv {a b c : Nat × Nat} (ia : ivW a) (ib : ivW b) (h : suX a b = some c) : ivW c := (wide_some h (su_le ia ib)).1
end Go.Proofs.YtonhpkigoplmaaaGreatDoor
