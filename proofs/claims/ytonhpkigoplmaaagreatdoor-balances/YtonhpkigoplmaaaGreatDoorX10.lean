/-
  OpM, RefD, RefE, OpQ, OpS, OpP, OpU, RefZ, OpC, EnclM, SolP, AddF, SqrtF, MeetF, MulG, Made, OpF, MulF, CorQ, OpD, KnowM.
-/
import Derived.Test.YtonhpkigoplmaaaGreatDoorX09
import Derived.Test.YtonhpkigoplmaaaGreatDoorX03
import Derived.Deep.DeepCutAuto
import Derived.Test.YtonhpkigoplmaaaGreatDoorX07
namespace Go.Proofs.YtonhpkigoplmaaaGreatDoor
open Go.RowKit Go.Extern Ieee

def negT (x : Bool × Nat × Int) : Bool × Nat × Int := (negS x.1 x.2.1, x.2.1, x.2.2)
def sumT (x y : Bool × Nat × Int) : Bool × Nat × Int := sumN x.1 x.2.1 x.2.2 y.1 y.2.1 y.2.2
theorem means_neg {e z : Int} {x : Bool × Nat × Int} (h : MeansT e z x) : MeansT e (-z) (negT x) := by
  obtain ⟨s, n, p⟩ := x
  intro c h1 h2
  have := h c h1 h2
  simp only at this
  show sg (negS s n) (n * 2 ^ (p - c).toNat) = _
  rw [Int.neg_mul, ← this]
  unfold negS sg
  by_cases h0 : n = 0
  · subst h0; simp
  · cases s <;> simp [h0]

theorem means_sgn {e z : Int} {x : Bool × Nat × Int} (h : MeansT e z x) : sgnI x.1 x.2.1 < 0 ↔ z < 0 := by
  obtain ⟨s, n, p⟩ := x
  have := h (min e p) (by simp only; omega) (by omega)
  simp only at this
  have hp1 := Nat.two_pow_pos (p - min e p).toNat
  have hp2 := Nat.two_pow_pos (e - min e p).toNat
  have hz : z < 0 ↔ sg s (n * 2 ^ (p - min e p).toNat) < 0 := by
    rw [this]
    constructor
    · intro hz; exact Int.mul_neg_of_neg_of_pos hz (by omega)
    · intro hz
      apply Decidable.byContradiction
      intro hc
      have := Int.mul_nonneg (show 0 ≤ z by omega) (Int.natCast_nonneg (2 ^ (e - min e p).toNat))
      omega
  rw [hz]
  unfold sgnI sg
  simp only
  by_cases h0 : n = 0
  · subst h0; simp
  · have : 0 < n * 2 ^ (p - min e p).toNat := Nat.mul_pos (Nat.pos_of_ne_zero h0) hp1
    rw [if_neg h0]
    generalize n * 2 ^ (p - min e p).toNat = N at *
    cases s
    · rw [if_neg Bool.false_ne_true, if_neg Bool.false_ne_true]; omega
    · rw [if_pos rfl, if_pos rfl]; omega

theorem means_low2 (x : Bool × Nat × Int) {e : Int} (h : e ≤ x.2.2) : MeansT e (sg x.1 (x.2.1 * 2 ^ (x.2.2 - e).toNat)) x := by
  obtain ⟨s, n, p⟩ := x
  intro c h1 h2
  simp only at *
  rw [sg_mul, Nat.mul_assoc, ← Nat.pow_add]
  congr 3
  omega

theorem lessT_means {e a b : Int} {x y : Bool × Nat × Int} (hx : MeansT e a x) (hy : MeansT e b y) : lessT x y = true ↔ a < b := by
  unfold lessT lessN
  rw [decide_eq_true_eq]
  have := sumN_means hx (means_neg hy)
  have h2 := means_sgn this
  rw [show a < b ↔ a + -b < 0 by omega]
  exact h2

theorem lessT_le (x y : Bool × Nat × Int) : (lessT x y = true → leV x y) ∧ (lessT x y = false → leV y x) := by
  have hx := means_low2 x (e := min x.2.2 y.2.2) (by omega)
  have hy := means_low2 y (e := min x.2.2 y.2.2) (by omega)
  have h := lessT_means hx hy
  constructor
  · intro ht; exact leV_means hx hy (by have := h.1 ht; omega)
  · intro hf
    refine leV_means hy hx ?_
    apply Decidable.byContradiction
    intro hc
    rw [h.2 (by omega)] at hf
    cases hf

theorem lessT_self (x : Bool × Nat × Int) : lessT x x = false := by
  have hx := means_low2 x (Int.le_refl _)
  cases h : lessT x x
  · rfl
  · have := (lessT_means hx hx).1 h; omega

/-- An interval's two words. -/
structure Iv (l h : Nat) : Prop where
  lt1 : l < 18446744073709551616
  lt2 : h < 18446744073709551616
  z1 : l ≠ 9223372036854775808
  z2 : h ≠ 9223372036854775808
  p1 : plainN l = some (plT l)
  p2 : plainN h = some (plT h)
  le : posF l ≤ posF h

theorem Iv.f1 {l h : Nat} (i : Iv l h) : FR l (posF l) := FR_plain i.lt1 i.z1 (by rw [i.p1]; rfl)
theorem Iv.f2 {l h : Nat} (i : Iv l h) : FR h (posF h) := FR_plain i.lt2 i.z2 (by rw [i.p2]; rfl)
theorem Iv.q1 {l h : Nat} (i : Iv l h) : plP (posF l) = true := by rw [← i.f1.plain, i.p1]; rfl
theorem Iv.q2 {l h : Nat} (i : Iv l h) : plP (posF h) = true := by rw [← i.f2.plain, i.p2]; rfl
theorem Iv.v1 {l h : Nat} (i : Iv l h) (way : Int) : posV (plT l) way = posF l := posV_plain i.lt1 i.p1 way
theorem Iv.v2 {l h : Nat} (i : Iv l h) (way : Int) : posV (plT h) way = posF h := posV_plain i.lt2 i.p2 way

theorem plT_some {b : Nat} (h : (plainN b).isSome = true) : plainN b = some (plT b) := by
  unfold plT
  cases hb : plainN b with
  | none => rw [hb] at h; cases h
  | some x => rfl

theorem plainN_posW (b : Nat) (hb : b < 18446744073709551616) : plainN (posW b) = plainN b := by
  unfold posW
  split
  · rename_i h
    have : b = 0 ∨ b = 9223372036854775808 := by omega
    rcases this with rfl | rfl <;> rfl
  · rfl

theorem posW_nz (b : Nat) : posW b ≠ 9223372036854775808 := by
  unfold posW
  split
  · decide
  · intro hc; subst hc; rename_i h; exact h rfl

theorem made_iv (lo hi : Nat) (h1 : lo < 18446744073709551616) (h2 : hi < 18446744073709551616) : Iv (makeN lo hi).1 (makeN lo hi).2.1 := by
  have z : Iv 0 0 := ⟨by omega, by omega, by omega, by omega, rfl, rfl, Int.le_refl _⟩
  unfold makeN
  split
  · exact z
  · rename_i hp
    split
    · exact z
    · rename_i hl
      have p1 : (plainN lo).isSome = true := by cases h : (plainN lo).isSome <;> simp_all
      have p2 : (plainN hi).isSome = true := by cases h : (plainN hi).isSome <;> simp_all
      have e1 : plT (posW lo) = plT lo := by unfold plT; rw [plainN_posW _ h1]
      have e2 : plT (posW hi) = plT hi := by unfold plT; rw [plainN_posW _ h2]
      have q1 : plainN (posW lo) = some (plT lo) := by rw [plainN_posW _ h1]; exact plT_some p1
      have q2 : plainN (posW hi) = some (plT hi) := by rw [plainN_posW _ h2]; exact plT_some p2
      refine ⟨posW_lt h1, posW_lt h2, posW_nz _, posW_nz _, by rw [e1]; exact q1, by rw [e2]; exact q2, ?_⟩
      rw [← posV_plain (posW_lt h1) q1 1, ← posV_plain (posW_lt h2) q2 1]
      refine posV_mono 1 (Or.inr rfl) ((lessT_le (plT hi) (plT lo)).2 ?_)
      cases hh : lessT (plT hi) (plT lo)
      · rfl
      · exact absurd hh hl

theorem boxP_plain {p q : Int} (h1 : plP p = true) (h2 : plP q = true) : boxP p q = (wdP p, wdP q, 0) := by
  unfold boxP; rw [if_pos ⟨h1, h2⟩]

/-- Less, by the places. -/
theorem lessT_pos {a b l h : Nat} (i : Iv l a) (j : Iv h b) : lessT (plT a) (plT b) = decide (posF a < posF b) := by
  cases hl : lessT (plT a) (plT b)
  · have := posV_mono 1 (Or.inr rfl) ((lessT_le _ _).2 hl)
    rw [i.v2, j.v2] at this
    rw [decide_eq_false (by omega)]
  · have := posV_mono 1 (Or.inr rfl) ((lessT_le _ _).1 hl)
    rw [i.v2, j.v2] at this
    rw [decide_eq_true]
    apply Decidable.byContradiction
    intro hc
    have he : posF a = posF b := by omega
    have : a = b := by
      rw [i.f2.word i.q2, j.f2.word j.q2, he]
    subst this
    rw [lessT_self] at hl
    cases hl

theorem Iv.low {l h : Nat} (i : Iv l h) : Iv l l := ⟨i.lt1, i.lt1, i.z1, i.z1, i.p1, i.p1, Int.le_refl _⟩
theorem Iv.high {l h : Nat} (i : Iv l h) : Iv h h := ⟨i.lt2, i.lt2, i.z2, i.z2, i.p2, i.p2, Int.le_refl _⟩

theorem kw_cases (d : Nat) : kw d = if 9223372036854775808 ≤ d then -((d % 9223372036854775808 : Nat) : Int) else ((d % 9223372036854775808 : Nat) : Int) := by
  unfold kw sg
  by_cases h : 9223372036854775808 ≤ d
  · rw [decide_eq_true h, if_pos rfl, if_pos h]
  · rw [decide_eq_false h, if_neg Bool.false_ne_true, if_neg h]

theorem negW_eq {b : Nat} (hb : b < 18446744073709551616) : negW b = if 9223372036854775808 ≤ b then b - 9223372036854775808 else b + 9223372036854775808 := by
  have := negW_wd (s := decide (9223372036854775808 ≤ b)) (R := b % 9223372036854775808) (by omega)
  rw [wd_self hb] at this
  rw [this]
  unfold wd
  by_cases h : 9223372036854775808 ≤ b
  · rw [decide_eq_true h, if_pos h]; simp; omega
  · rw [decide_eq_false h, if_neg h]; simp; omega

theorem plain_neg {b : Nat} {x : Bool × Nat × Int} (hb : b < 18446744073709551616) (h : plainN b = some x) : plainN (negW b) = some (negT x) := by
  have hn := negW_eq hb
  have e1 : negW b / 4503599627370496 % 2048 = b / 4503599627370496 % 2048 := by rw [hn]; split <;> omega
  have e2 : negW b % 4503599627370496 = b % 4503599627370496 := by rw [hn]; split <;> omega
  have e3 : negW b / 9223372036854775808 = 1 ↔ ¬ b / 9223372036854775808 = 1 := by rw [hn]; split <;> omega
  unfold plainN at h ⊢
  rw [e1, e2]
  split at h
  · rename_i h0
    rw [if_pos h0]
    cases h; rfl
  · rename_i h0
    rw [if_neg h0]
    split at h
    · cases h
    · rename_i h1
      rw [if_neg h1]
      cases h
      unfold negT negS
      simp only
      congr 2
      by_cases hd : b / 9223372036854775808 = 1
      · rw [decide_eq_true hd, decide_eq_false (fun hc => e3.1 hc hd)]; rfl
      · rw [decide_eq_false hd, decide_eq_true (e3.2 hd)]; simp

theorem negW_lt {b : Nat} (hb : b < 18446744073709551616) : negW b < 18446744073709551616 := by
  rw [negW_eq hb]; split <;> omega

/-- The sign, by the order. -/
theorem sgn_order {l h : Nat} (i : Iv l h) : ∃ o, FloatKind.f64.format.order l 0 = some o ∧ (o = .lt ↔ sgnI (plT l).1 (plT l).2.1 < 0) ∧ (o = .gt ↔ 0 < sgnI (plT l).1 (plT l).2.1) := by
  have ho : double.order l 0 = _ := order_kw i.f1 FR_zero
  refine ⟨_, ho, ?_⟩
  have k0 : kw 0 = 0 := rfl
  rw [k0, kw_cases]
  have hp := i.p1
  have h1 := i.lt1
  have h2 := i.z1
  generalize plT l = x at *
  unfold plainN at hp
  split at hp
  · rename_i h0
    have : l = 0 := by omega
    subst this
    cases hp
    decide
  · rename_i h0
    split at hp
    · cases hp
    · cases hp
      unfold sgnI
      simp only
      rw [if_neg (show ¬ l % 4503599627370496 + 4503599627370496 = 0 by omega)]
      by_cases hd : 9223372036854775808 ≤ l
      · rw [if_pos hd, decide_eq_true (show l / 9223372036854775808 = 1 by omega)]
        have : compare (-((l % 9223372036854775808 : Nat) : Int)) 0 = .lt := Int.compare_eq_lt.2 (by omega)
        rw [this]; simp
      · rw [if_neg hd, decide_eq_false (show ¬ l / 9223372036854775808 = 1 by omega)]
        have : compare ((l % 9223372036854775808 : Nat) : Int) 0 = .gt := Int.compare_eq_gt.2 (by omega)
        rw [this]; simp

end Go.Proofs.YtonhpkigoplmaaaGreatDoor
namespace Go.Proofs.YtonhpkigoplmaaaGreatDoor
open Go.RowKit

end Go.Proofs.YtonhpkigoplmaaaGreatDoor
namespace Go.Proofs.YtonhpkigoplmaaaGreatDoor
open Go.RowKit

/-- What Made gives. -/
def MadeG (args : Array Value) (x y : Bool × Nat × Int) : Prop := ∀ W : World, Calls Tryz.prog 60 args W fun e w' => ∃ ao la ca bo lb cb, e = .returned (.agg #[.bool x.1, .slice ao la ca, .int .i64 x.2.2, .bool y.1, .slice bo lb cb, .int .i64 y.2.2]) ∧ la = (digits x.2.1).length ∧ lb = (digits y.2.1).length ∧ NatV w' (.slice ao la ca) x.2.1 ∧ NatV w' (.slice bo lb cb) y.2.1 ∧ Below W.heap.size W w'

theorem made_gives (lo hi : Nat) (h1 : lo < 18446744073709551616) (h2 : hi < 18446744073709551616) : MadeG #[.agg #[.int .u64 (lo : Int), .int .u64 (hi : Int)]] (plT (makeN lo hi).1) (plT (makeN lo hi).2.1) := by
  intro W
  refine (refMade_any lo hi W h1 h2).mono ?_
  rintro e w' h
  obtain ⟨v, rfl, ⟨ao, la, ca, bo, lb, cb, rfl, hla, hlb, hna, hnb⟩, hb⟩ := h
  exact ⟨ao, la, ca, bo, lb, cb, rfl, hla, hlb, hna, hnb, hb⟩
end Go.Proofs.YtonhpkigoplmaaaGreatDoor
namespace Go.Proofs.YtonhpkigoplmaaaGreatDoor
open Go.RowKit

end Go.Proofs.YtonhpkigoplmaaaGreatDoor
namespace Go.Proofs.YtonhpkigoplmaaaGreatDoor
open Go.RowKit

end Go.Proofs.YtonhpkigoplmaaaGreatDoor
namespace Go.Proofs.YtonhpkigoplmaaaGreatDoor
open Go.RowKit

end Go.Proofs.YtonhpkigoplmaaaGreatDoor
namespace Go.Proofs.YtonhpkigoplmaaaGreatDoor
open Go.RowKit

end Go.Proofs.YtonhpkigoplmaaaGreatDoor
namespace Go.Proofs.YtonhpkigoplmaaaGreatDoor
open Go.RowKit

end Go.Proofs.YtonhpkigoplmaaaGreatDoor
namespace Go.Proofs.YtonhpkigoplmaaaGreatDoor
open Go.RowKit Go.Extern Ieee

/-- A number of few digits. -/
structure Sm (x : Bool × Nat × Int) : Prop where
  b : bl x.2.1 ≤ 10000
  l : -10000 ≤ x.2.2
  u : x.2.2 ≤ 10000

theorem Sm.small {x : Bool × Nat × Int} (h : Sm x) : Small x := ⟨by have := h.b; omega, by have := h.l; omega, by have := h.u; omega⟩
theorem Sm.len {x : Bool × Nat × Int} (h : Sm x) : (digits x.2.1).length ≤ 1000 := by have := len_of_bl x.2.1; have := h.b; omega
theorem Sm.both {x : Bool × Nat × Int} (h : Sm x) : Small x ∧ (digits x.2.1).length ≤ 400000 := ⟨h.small, by have := h.len; omega⟩

/-- What is known of a plain float's number. -/
structure Pl (x : Bool × Nat × Int) : Prop where
  n : x.2.1 < 9007199254740992
  l : -952 ≤ x.2.2
  u : x.2.2 ≤ 848

theorem pl_of {b : Nat} {x : Bool × Nat × Int} (h : plainN b = some x) : Pl x := by
  rcases plain_num h with h | ⟨h1, h2, h3, h4⟩
  · subst h; exact ⟨by decide, by decide, by decide⟩
  · exact ⟨h2, h3, h4⟩

theorem Pl.bits {x : Bool × Nat × Int} (h : Pl x) : bl x.2.1 ≤ 53 := bl_le (by rw [p53]; exact h.n)
theorem Pl.sm {x : Bool × Nat × Int} (h : Pl x) : Sm x := ⟨by have := h.bits; omega, by have := h.l; omega, by have := h.u; omega⟩
theorem lt_bl (n : Nat) : n < 2 ^ bl n := by
  rcases Nat.eq_zero_or_pos n with h | h
  · subst h; exact Nat.two_pow_pos _
  · exact (bl_bounds h).2.1
/-- The sign, by the place. -/
theorem sgn_pos (x : Bool × Nat × Int) (way : Int) : (sgnI x.1 x.2.1 < 0 ↔ posV x way < 0) ∧ (0 < sgnI x.1 x.2.1 ↔ 0 < posV x way) ∧ (x.2.1 = 0 ↔ posV x way = 0) := by
  obtain ⟨s, n, e⟩ := x
  have c := clampR_bounds (endR s n e way)
  unfold sgnI posV
  simp only
  by_cases h0 : n = 0
  · rw [if_pos h0, if_pos h0]; simp [h0]
  · rw [if_neg h0, if_neg h0]
    unfold sgI
    cases s
    · rw [if_neg Bool.false_ne_true, if_neg Bool.false_ne_true]; omega
    · rw [if_pos rfl, if_pos rfl]; omega

theorem iv_ne {l h : Nat} (i : Iv l h) (hz : holdsT (plT l) (plT h) = false) : (plT l).2.1 ≠ 0 ∧ (plT h).2.1 ≠ 0 := by
  have a := sgn_pos (plT l) 1
  have b := sgn_pos (plT h) 1
  rw [i.v1 1] at a
  rw [i.v2 1] at b
  have hl := i.le
  unfold holdsT at hz
  rw [Bool.and_eq_false_iff, decide_eq_false_iff_not, decide_eq_false_iff_not] at hz
  constructor
  · intro h0; have := a.2.2.1 h0; omega
  · intro h0; have := b.2.2.1 h0; omega

end Go.Proofs.YtonhpkigoplmaaaGreatDoor
namespace Go.Proofs.YtonhpkigoplmaaaGreatDoor
open Go.RowKit Go.Extern Ieee

/-- The number of a word in the range of plain floats. -/
theorem plT_wd (s : Bool) {r : Nat} (h1 : 553942754166571008 ≤ r) (h2 : r ≤ 8660422083433463808) : plainN (wd s r) = some (s, r % 4503599627370496 + 4503599627370496, ((r / 4503599627370496 : Nat) : Int) - 1075) := by
  have e1 : wd s r % 4503599627370496 = r % 4503599627370496 := by unfold wd; split <;> omega
  have e2 : wd s r / 4503599627370496 % 2048 = r / 4503599627370496 := by unfold wd; split <;> omega
  have e3 : decide (wd s r / 9223372036854775808 = 1) = s := by
    unfold wd
    cases s
    · rw [if_neg Bool.false_ne_true]; exact decide_eq_false (by omega)
    · rw [if_pos rfl]; exact decide_eq_true (by omega)
  unfold plainN
  rw [e1, e2, e3, if_neg (by omega), if_neg (by omega)]

theorem means_high {s : Bool} {m k : Nat} {E : Int} : MeansT E (sg s (m * 2 ^ k)) (s, m, E + k) := by
  intro c h1 h2
  simp only at *
  rw [sg_mul, Nat.mul_assoc, ← Nat.pow_add]
  congr 3
  omega

theorem word_low (s : Bool) {n : Nat} {e : Int} (h0 : n ≠ 0) (h1 : 553942754166571008 ≤ rung n e) (h2 : rung n e ≤ 8660422083433463808) : MeansT (e + bl n - 53) (sg s (mf n)) (plT (wd s (rung n e).toNat)) := by
  have hb := mf_bounds (Nat.pos_of_ne_zero h0)
  have hp := plT_wd s (r := (rung n e).toNat) (by omega) (by omega)
  have e1 : (rung n e).toNat % 4503599627370496 + 4503599627370496 = mf n := by unfold rung at *; omega
  have e2 : (((rung n e).toNat / 4503599627370496 : Nat) : Int) - 1075 = e + bl n - 53 := by unfold rung at *; omega
  have : plT (wd s (rung n e).toNat) = (s, mf n, e + bl n - 53) := by unfold plT; rw [hp, e1, e2]; rfl
  rw [this]
  have := means_high (s := s) (m := mf n) (k := 0) (E := e + bl n - 53)
  simpa using this

theorem word_up (s : Bool) {n : Nat} {e : Int} (h0 : n ≠ 0) (h1 : 553942754166571008 ≤ rung n e + 1) (h2 : rung n e + 1 ≤ 8660422083433463808) : MeansT (e + bl n - 53) (sg s (mf n + 1)) (plT (wd s (rung n e + 1).toNat)) := by
  have hb := mf_bounds (Nat.pos_of_ne_zero h0)
  have hp := plT_wd s (r := (rung n e + 1).toNat) (by omega) (by omega)
  by_cases hc : mf n + 1 < 9007199254740992
  · have e1 : (rung n e + 1).toNat % 4503599627370496 + 4503599627370496 = mf n + 1 := by unfold rung at *; omega
    have e2 : (((rung n e + 1).toNat / 4503599627370496 : Nat) : Int) - 1075 = e + bl n - 53 := by unfold rung at *; omega
    have : plT (wd s (rung n e + 1).toNat) = (s, mf n + 1, e + bl n - 53) := by unfold plT; rw [hp, e1, e2]; rfl
    rw [this]
    have := means_high (s := s) (m := mf n + 1) (k := 0) (E := e + bl n - 53)
    simpa using this
  · have e1 : (rung n e + 1).toNat % 4503599627370496 + 4503599627370496 = 4503599627370496 := by unfold rung at *; omega
    have e2 : (((rung n e + 1).toNat / 4503599627370496 : Nat) : Int) - 1075 = e + bl n - 53 + (1 : Nat) := by unfold rung at *; omega
    have : plT (wd s (rung n e + 1).toNat) = (s, 4503599627370496, e + bl n - 53 + (1 : Nat)) := by unfold plT; rw [hp, e1, e2]; rfl
    rw [this]
    have := means_high (s := s) (m := 4503599627370496) (k := 1) (E := e + bl n - 53)
    rwa [show 4503599627370496 * 2 ^ 1 = mf n + 1 by omega] at this

/-- The mantissa's bounds. -/
theorem mf_cut (n : Nat) (e c : Int) (_h0 : n ≠ 0) (h1 : c ≤ e) (h2 : c ≤ e + bl n - 53) : mf n * 2 ^ (e + bl n - 53 - c).toNat ≤ n * 2 ^ (e - c).toNat ∧ n * 2 ^ (e - c).toNat ≤ (mf n + if inex n then 1 else 0) * 2 ^ (e + bl n - 53 - c).toNat := by
  by_cases hb : bl n ≤ 53
  · have hm : mf n = n * 2 ^ (53 - bl n) := by unfold mf; rw [if_pos hb]
    have hi : inex n = false := inex_small hb
    have : mf n * 2 ^ (e + bl n - 53 - c).toNat = n * 2 ^ (e - c).toNat := by
      rw [hm, Nat.mul_assoc, ← Nat.pow_add]; congr 2; omega
    rw [hi]
    simp only [Bool.false_eq_true, if_false, Nat.add_zero]
    omega
  · have hm : mf n = n / 2 ^ (bl n - 53) := by unfold mf; rw [if_neg hb]
    have hx : inex n = decide (n % 2 ^ (bl n - 53) ≠ 0) := by unfold inex; simp [show 53 < bl n by omega]
    have hp : 2 ^ (e + bl n - 53 - c).toNat = 2 ^ (bl n - 53) * 2 ^ (e - c).toNat := by rw [← Nat.pow_add]; congr 1; omega
    have hd := Nat.div_add_mod n (2 ^ (bl n - 53))
    have hl := Nat.mod_lt n (Nat.two_pow_pos (bl n - 53))
    rw [hp, ← Nat.mul_assoc, ← Nat.mul_assoc]
    rw [hm, hx]
    constructor
    · apply Nat.mul_le_mul_right
      rw [Nat.mul_comm]; omega
    · apply Nat.mul_le_mul_right
      by_cases hz : n % 2 ^ (bl n - 53) = 0
      · rw [decide_eq_false (by omega)]
        simp only [Bool.false_eq_true, if_false, Nat.add_zero]
        rw [Nat.mul_comm]; omega
      · rw [decide_eq_true hz, if_pos rfl, Nat.add_mul, Nat.one_mul, Nat.mul_comm (n / _)]; omega

theorem wdP_sg (s : Bool) {r : Int} (h : 0 < r) : wdP (sgI s r) = wd s r.toNat := by
  unfold wdP sgI
  cases s
  · rw [if_neg Bool.false_ne_true, decide_eq_false (by omega)]; congr 1; omega
  · rw [if_pos rfl, decide_eq_true (by omega)]; congr 1; omega

theorem plP_sg (s : Bool) {r : Int} (h : plP (sgI s (clampR r)) = true) : 553942754166571008 ≤ r ∧ r ≤ 8660422083433463808 ∧ clampR r = r := by
  unfold plP at h
  rw [decide_eq_true_eq] at h
  have hc := clampR_cases r
  have ha : ((sgI s (clampR r)).natAbs : Int) = clampR r := by
    have := clampR_bounds r
    unfold sgI; cases s
    · rw [if_neg Bool.false_ne_true]; omega
    · rw [if_pos rfl]; omega
  have hz : sgI s (clampR r) ≠ 0 := by
    have := clampR_bounds r
    omega
  omega

theorem plT_zero : plT 0 = (false, 0, 0) := rfl
theorem wdP_zero : wdP 0 = 0 := rfl

theorem means_zero2 {x : Bool × Nat × Int} (h : x.2.1 = 0) (e : Int) : MeansT e 0 x := by
  obtain ⟨s, n, p⟩ := x
  simp only at h
  subst h
  exact means_zero e s p

theorem means_down {e z : Int} {x : Bool × Nat × Int} (h : MeansT e z x) {c : Int} (hc : c ≤ e) : MeansT c (z * ((2 ^ (e - c).toNat : Nat) : Int)) x := by
  have := means_low (s := x.1) (m := x.2.1) (p := x.2.2) h (e - c).toNat
  rwa [show e - ((e - c).toNat : Nat) = c by omega] at this

/-- What stands at a number's lower place is not above it. -/
theorem encl_low {x : Bool × Nat × Int} (h : plP (posV x (-1)) = true) : leV (plT (wdP (posV x (-1)))) x := by
  by_cases h0 : x.2.1 = 0
  · have : posV x (-1) = 0 := by unfold posV; rw [if_pos h0]
    rw [this, wdP_zero, plT_zero]
    exact leV_means (means_zero2 rfl 0) (means_zero2 h0 0) (Int.le_refl _)
  · have hp : posV x (-1) = sgI x.1 (clampR (endR x.1 x.2.1 x.2.2 (-1))) := by unfold posV; rw [if_neg h0]
    rw [hp] at h ⊢
    obtain ⟨a, b, c⟩ := plP_sg x.1 h
    rw [c, wdP_sg x.1 (by omega)]
    obtain ⟨s, n, e⟩ := x
    simp only at *
    have hc := mf_cut n e (min e (e + bl n - 53)) h0 (by omega) (by omega)
    have hx := means_low2 (s, n, e) (e := min e (e + bl n - 53)) (by simp only; omega)
    simp only at hx
    have hend : endR s n e (-1) = rung n e + if s && inex n then 1 else 0 := by unfold endR; rw [offS_down]
    rw [hend] at a b ⊢
    by_cases hs : (s && inex n) = true
    · rw [hs, if_pos rfl] at a b ⊢
      rw [Bool.and_eq_true] at hs
      obtain ⟨rfl, hi⟩ := hs
      have hw := means_down (word_up true h0 a b) (c := min e (e + bl n - 53)) (by omega)
      refine leV_means hw hx ?_
      rw [hi, if_pos rfl] at hc
      rw [sg_mul]
      have := hc.2
      unfold sg; rw [if_pos rfl, if_pos rfl]; omega
    · have hs' : (s && inex n) = false := by cases h : (s && inex n) <;> simp_all
      rw [hs', if_neg Bool.false_ne_true, Int.add_zero] at a b ⊢
      have hw := means_down (word_low s h0 a b) (c := min e (e + bl n - 53)) (by omega)
      refine leV_means hw hx ?_
      rw [sg_mul]
      cases s
      · have := hc.1
        unfold sg; rw [if_neg Bool.false_ne_true, if_neg Bool.false_ne_true]; omega
      · have hi : inex n = false := by simpa using hs'
        rw [hi] at hc
        simp only [Bool.false_eq_true, if_false, Nat.add_zero] at hc
        have := hc.2
        unfold sg; rw [if_pos rfl, if_pos rfl]; omega

/-- What stands at a number's upper place is not below it. -/
theorem encl_high {x : Bool × Nat × Int} (h : plP (posV x 1) = true) : leV x (plT (wdP (posV x 1))) := by
  by_cases h0 : x.2.1 = 0
  · have : posV x 1 = 0 := by unfold posV; rw [if_pos h0]
    rw [this, wdP_zero, plT_zero]
    exact leV_means (means_zero2 h0 0) (means_zero2 rfl 0) (Int.le_refl _)
  · have hp : posV x 1 = sgI x.1 (clampR (endR x.1 x.2.1 x.2.2 1)) := by unfold posV; rw [if_neg h0]
    rw [hp] at h ⊢
    obtain ⟨a, b, c⟩ := plP_sg x.1 h
    rw [c, wdP_sg x.1 (by omega)]
    obtain ⟨s, n, e⟩ := x
    simp only at *
    have hc := mf_cut n e (min e (e + bl n - 53)) h0 (by omega) (by omega)
    have hx := means_low2 (s, n, e) (e := min e (e + bl n - 53)) (by simp only; omega)
    simp only at hx
    have hend : endR s n e 1 = rung n e + if (!s) && inex n then 1 else 0 := by unfold endR; rw [offS_up]
    rw [hend] at a b ⊢
    by_cases hs : ((!s) && inex n) = true
    · rw [hs, if_pos rfl] at a b ⊢
      rw [Bool.and_eq_true] at hs
      obtain ⟨hs1, hi⟩ := hs
      have hs2 : s = false := by cases s <;> simp_all
      subst hs2
      have hw := means_down (word_up false h0 a b) (c := min e (e + bl n - 53)) (by omega)
      refine leV_means hx hw ?_
      rw [hi, if_pos rfl] at hc
      rw [sg_mul]
      have := hc.2
      unfold sg; rw [if_neg Bool.false_ne_true, if_neg Bool.false_ne_true]; omega
    · have hs' : ((!s) && inex n) = false := by cases h : ((!s) && inex n) <;> simp_all
      rw [hs', if_neg Bool.false_ne_true, Int.add_zero] at a b ⊢
      have hw := means_down (word_low s h0 a b) (c := min e (e + bl n - 53)) (by omega)
      refine leV_means hx hw ?_
      rw [sg_mul]
      cases s
      · have hi : inex n = false := by simpa using hs'
        rw [hi] at hc
        simp only [Bool.false_eq_true, if_false, Nat.add_zero] at hc
        have := hc.2
        unfold sg; rw [if_neg Bool.false_ne_true, if_neg Bool.false_ne_true]; omega
      · have := hc.1
        unfold sg; rw [if_pos rfl, if_pos rfl]; omega

/-- Numbers that are not above each other mean the same. -/
theorem means_anti {e z : Int} {x y : Bool × Nat × Int} (hx : MeansT e z x) (h1 : leV x y) (h2 : leV y x) : MeansT e z y := by
  have key : ∀ c, c ≤ x.2.2 → c ≤ y.2.2 → sg x.1 (x.2.1 * 2 ^ (x.2.2 - c).toNat) = sg y.1 (y.2.1 * 2 ^ (y.2.2 - c).toNat) := by
    intro c a b
    have p1 : ∀ u v : Bool × Nat × Int, c ≤ u.2.2 → c ≤ v.2.2 → leV u v → sg u.1 (u.2.1 * 2 ^ (u.2.2 - c).toNat) ≤ sg v.1 (v.2.1 * 2 ^ (v.2.2 - c).toNat) := by
      intro u v hu hv h
      unfold leV lvA lvB at h
      have hm := Int.mul_le_mul_of_nonneg_right h (Int.natCast_nonneg (2 ^ (min u.2.2 v.2.2 - c).toNat))
      rw [sg_mul, sg_mul, Nat.mul_assoc, Nat.mul_assoc, ← Nat.pow_add, ← Nat.pow_add] at hm
      rwa [show (u.2.2 - min u.2.2 v.2.2).toNat + (min u.2.2 v.2.2 - c).toNat = (u.2.2 - c).toNat by omega, show (v.2.2 - min u.2.2 v.2.2).toNat + (min u.2.2 v.2.2 - c).toNat = (v.2.2 - c).toNat by omega] at hm
    exact Int.le_antisymm (p1 x y a b h1) (p1 y x b a h2)
  refine means_of (min (min x.2.2 y.2.2) e) (by omega) (by omega) ?_
  rw [← key _ (by omega) (by omega)]
  exact hx _ (by omega) (by omega)
end Go.Proofs.YtonhpkigoplmaaaGreatDoor
namespace Go.Proofs.YtonhpkigoplmaaaGreatDoor

/-- Powers of two. -/
def pw (k : Int) : Rat := (2 : Rat) ^ k
theorem pw_add (a b : Int) : pw (a + b) = pw a * pw b := Rat.zpow_add (by grind) a b
theorem pw_zero : pw 0 = 1 := Rat.zpow_zero 2
theorem pw_one : pw 1 = 2 := by unfold pw; grind
theorem pw_nat (n : Nat) : pw (n : Int) = ((2 ^ n : Nat) : Rat) := by
  unfold pw
  rw [Rat.zpow_natCast]
  induction n with
  | zero => rfl
  | succ n ih => rw [Rat.pow_succ, ih, Nat.pow_succ]; grind
theorem pw_pos (k : Int) : 0 < pw k := by
  rcases (show (∃ n : Nat, k = n) ∨ (∃ n : Nat, k = -(n : Int)) from by
    rcases Int.eq_nat_or_neg k with ⟨n, h | h⟩
    · left; exact ⟨n, h⟩
    · right; exact ⟨n, h⟩) with ⟨n, rfl⟩ | ⟨n, rfl⟩
  · rw [pw_nat]
    have := Nat.two_pow_pos n
    exact Rat.natCast_pos.2 this
  · have h : pw (-(n : Int)) * pw (n : Int) = 1 := by rw [← pw_add, show -(n : Int) + n = 0 by omega, pw_zero]
    have h2 : 0 < pw (n : Int) := by
      rw [pw_nat]
      exact Rat.natCast_pos.2 (Nat.two_pow_pos n)
    apply Decidable.byContradiction
    intro hc
    have := Rat.mul_nonneg (show 0 ≤ -pw (-(n : Int)) by grind) (Rat.le_of_lt h2)
    grind
theorem pw_le {a b : Int} (h : a ≤ b) : pw a ≤ pw b := by
  obtain ⟨n, rfl⟩ : ∃ n : Nat, b = a + n := ⟨(b - a).toNat, by omega⟩
  rw [pw_add, pw_nat]
  have h1 : (1 : Rat) ≤ ((2 ^ n : Nat) : Rat) := by
    have := Nat.two_pow_pos n
    have : ((1 : Nat) : Rat) ≤ ((2 ^ n : Nat) : Rat) := Rat.natCast_le_natCast.2 (by omega)
    exact this
  have := mul_le_l (Rat.le_of_lt (pw_pos a)) h1
  grind

/-- The number of a rung. -/
def rvQ (r : Int) : Rat := ((r % 4503599627370496 + 4503599627370496 : Int) : Rat) * pw (r / 4503599627370496 - 1075)

theorem rv_at {r m e : Int} (h1 : r = (e + 1074) * 4503599627370496 + m) (h2 : 4503599627370496 ≤ m) (h3 : m < 9007199254740992) : rvQ r = (m : Rat) * pw e := by
  unfold rvQ
  rw [show r % 4503599627370496 + 4503599627370496 = m by omega, show r / 4503599627370496 - 1075 = e by omega]

theorem rv_next {r m e : Int} (h1 : r = (e + 1074) * 4503599627370496 + m) (h2 : 4503599627370496 ≤ m) (h3 : m < 9007199254740992) : rvQ (r + 1) = ((m + 1 : Int) : Rat) * pw e := by
  by_cases h : m + 1 < 9007199254740992
  · exact rv_at (by omega) (by omega) h
  · have hm : m = 9007199254740991 := by omega
    rw [rv_at (r := r + 1) (m := 4503599627370496) (e := e + 1) (by omega) (by omega) (by omega), pw_add, pw_one, hm]
    grind

theorem rv_parts (r : Int) : ∃ m e : Int, r = (e + 1074) * 4503599627370496 + m ∧ 4503599627370496 ≤ m ∧ m < 9007199254740992 :=
  ⟨r % 4503599627370496 + 4503599627370496, r / 4503599627370496 - 1075, by omega, by omega, by omega⟩

theorem rv_pos (r : Int) : 0 < rvQ r := by
  obtain ⟨m, e, h1, h2, h3⟩ := rv_parts r
  rw [rv_at h1 h2 h3]
  exact Rat.mul_pos (Rat.intCast_pos.2 (by omega)) (pw_pos e)

/-- The next rung: a little more. -/
theorem rv_succ (r : Int) : rvQ r < rvQ (r + 1) ∧ rvQ (r + 1) ≤ rvQ r + eps * rvQ r := by
  obtain ⟨m, e, h1, h2, h3⟩ := rv_parts r
  rw [rv_at h1 h2 h3, rv_next h1 h2 h3]
  have hp := pw_pos e
  have hm : (4503599627370496 : Rat) ≤ (m : Rat) := by
    have : ((4503599627370496 : Int) : Rat) ≤ (m : Rat) := Rat.intCast_le_intCast.2 h2
    exact this
  have e1 : ((m + 1 : Int) : Rat) = (m : Rat) + 1 := by grind
  rw [e1]
  have := mul_le_r (Rat.le_of_lt hp) hm
  unfold eps
  constructor <;> grind

theorem rv_mono {r t : Int} (h : r ≤ t) : rvQ r ≤ rvQ t := by
  obtain ⟨n, rfl⟩ : ∃ n : Nat, t = r + n := ⟨(t - r).toNat, by omega⟩
  clear h
  induction n with
  | zero => simp
  | succ n ih =>
    have := (rv_succ (r + n)).1
    rw [show r + ((n + 1 : Nat) : Int) = r + n + 1 by omega]
    grind
end Go.Proofs.YtonhpkigoplmaaaGreatDoor
namespace Go.Proofs.YtonhpkigoplmaaaGreatDoor
open Go.RowKit Go.Extern Ieee
attribute [local go_sem] run_store_float

theorem c_fld0 (x y : Nat) (w : World) : (Instr.field 130 (.agg #[.float .f64 x, .float .f64 y]) 0).run Tryz.prog w = .ok (.float .f64 x) w := by kernel_rfl
theorem c_fld1 (x y : Nat) (w : World) : (Instr.field 130 (.agg #[.float .f64 x, .float .f64 y]) 1).run Tryz.prog w = .ok (.float .f64 y) w := by kernel_rfl

set_option maxRecDepth 100000 in
set_option maxHeartbeats 4000000 in
theorem diffsF_any (al ah bl bh d1 u1 d2 u2 : Nat) (w : World) (h1 : Gives 89 #[.float .f64 al, .float .f64 (negW bh)] d1 u1) (h2 : Gives 89 #[.float .f64 ah, .float .f64 (negW bl)] d2 u2) :
    Calls Tryz.prog 90 #[.agg #[.float .f64 al, .float .f64 ah], .agg #[.float .f64 bl, .float .f64 bh]] w fun ev w' => ev = .returned (.tuple #[.float .f64 d1, .float .f64 u2]) ∧ Below w.heap.size w w' := by
  have H1 : Hid (∀ w, Calls Tryz.prog 89 #[.float .f64 al, .float .f64 (negW bh)] w fun ev w' => ev = .returned (.agg #[.float .f64 d1, .float .f64 u1]) ∧ Below w.heap.size w w') := h1
  have H2 : Hid (∀ w, Calls Tryz.prog 89 #[.float .f64 ah, .float .f64 (negW bl)] w fun ev w' => ev = .returned (.agg #[.float .f64 d2, .float .f64 u2]) ∧ Below w.heap.size w w') := h2
  have n0 : ∀ w, (Op.unary .neg (.float .f64 bl)).run Tryz.prog w = .ok (.float .f64 (negW bl)) w := fun w => run_neg_float w _
  have n1 : ∀ w, (Op.unary .neg (.float .f64 bh)).run Tryz.prog w = .ok (.float .f64 (negW bh)) w := fun w => run_neg_float w _
  have f0 := c_fld0
  have f1 := c_fld1
  clear h1 h2
  generalize negW bl = nl at *
  generalize negW bh = nh at *
  go_enter Tryz.func90, Tryz.ntmps90
  go_wp2_with fail
  have B0 := blk_old (blk_new w (Obj.cells #[.float .f64 al, .float .f64 ah] 67)) (Obj.cells #[.float .f64 bl, .float .f64 bh] 67)
  have B1 := blk_new (w.alloc (Obj.cells #[.float .f64 al, .float .f64 ah] 67)) (Obj.cells #[.float .f64 bl, .float .f64 bh] 67)
  have hW : Below w.heap.size w ((w.alloc (Obj.cells #[.float .f64 al, .float .f64 ah] 67)).alloc (Obj.cells #[.float .f64 bl, .float .f64 bh] 67)) := ((Below.refl _ _).alloc (Nat.le_refl _) _).alloc (by simp) _
  simp only [World.size_alloc] at B1
  generalize ((w.alloc (Obj.cells #[.float .f64 al, .float .f64 ah] 67)).alloc (Obj.cells #[.float .f64 bl, .float .f64 bh] 67)) = W2 at *
  have HB0 : Hid (W2.drew.heap[w.heap.size]? = _) := B0
  have HB1 : Hid (W2.drew.heap[w.heap.size + 1]? = _) := B1
  have HW : Hid (Below w.heap.size w W2.drew) := hW.drew
  obtain ⟨a0, a1, -, -⟩ := blk2 B0
  obtain ⟨b0, b1, -, -⟩ := blk2 B1
  clear B0 B1 hW
  go_region_held3 (fun W => W.cell? ⟨w.heap.size, 0, none⟩ = some (.float .f64 al) ∧ W.cell? ⟨w.heap.size, 1, none⟩ = some (.float .f64 ah) ∧ W.cell? ⟨w.heap.size + 1, 0, none⟩ = some (.float .f64 bl) ∧ W.cell? ⟨w.heap.size + 1, 1, none⟩ = some (.float .f64 bh)) (first | (go_keep; done) | (refine ⟨?_, ?_, ?_, ?_⟩ <;> first | (go_keep; done) | (rw [cell_set_ne (by omega), cell_set_ne (by omega)]; assumption) | assumption))
    (first
      | (go_at_call 89; with_reducible (refine Calls.mono (H1.out _) ?_); rintro e w3 ⟨rfl, hb3⟩
         have HB3 : Hid (Below _ _ w3) := hb3
         obtain ⟨a0, a1, -, -⟩ := blk2 (blk_below HB0.out hb3)
         obtain ⟨b0, b1, -, -⟩ := blk2 (blk_below HB1.out hb3)
         clear hb3)
      | (go_at_call 89; with_reducible (refine Calls.mono (H2.out _) ?_); rintro e w4 ⟨rfl, hb4⟩
         have HB4 : Hid (Below _ _ w4) := hb4
         obtain ⟨a0, a1, -, -⟩ := blk2 (blk_below (blk_below HB0.out HB3.out) hb4)
         obtain ⟨b0, b1, -, -⟩ := blk2 (blk_below (blk_below HB1.out HB3.out) hb4)
         clear hb4))
  have hX : Below w.heap.size w w4 := (HW.out.trans (HB3.out.mono HW.out.size)).trans (HB4.out.mono (Nat.le_trans HW.out.size HB3.out.size))
  go_wp2_with fail
  refine bodyPost_ret (v := .tuple #[.float .f64 d1, .float .f64 u2]) (by simp [results, Tryz.results90, go_sem]) rfl ?_
  exact ⟨rfl, hX⟩

end Go.Proofs.YtonhpkigoplmaaaGreatDoor
namespace Go.Proofs.YtonhpkigoplmaaaGreatDoor
open Go.RowKit Go.Extern Ieee
attribute [local go_sem] run_store_float

end Go.Proofs.YtonhpkigoplmaaaGreatDoor
namespace Go.Proofs.YtonhpkigoplmaaaGreatDoor
open Go.RowKit Go.Extern Ieee
attribute [local go_sem] run_store_float

/-- Does an interval hold 0, by how its ends stand to 0? -/
theorem holds_any (al ah : Nat) (o1 o2 : Ordering) (w : World) (h1 : FloatKind.f64.format.order al 0 = some o1) (h2 : FloatKind.f64.format.order ah 0 = some o2) :
    Calls Tryz.prog 93 #[.agg #[.float .f64 al, .float .f64 ah]] w fun ev w' => ev = .returned (.bool (o1 != .gt && o2 != .lt)) ∧ Below w.heap.size w w' := by
  cases o1 <;> cases o2 <;>
  (go_enter Tryz.func93, Tryz.ntmps93
   go_wp2
   go_ret
   exact ⟨rfl, (Below.refl _ _).alloc (Nat.le_refl _) _⟩)

end Go.Proofs.YtonhpkigoplmaaaGreatDoor
namespace Go.Proofs.YtonhpkigoplmaaaGreatDoor
open Go.RowKit Go.Extern Ieee
attribute [local go_sem] run_store_float

end Go.Proofs.YtonhpkigoplmaaaGreatDoor
namespace Go.Proofs.YtonhpkigoplmaaaGreatDoor
open Go.RowKit Go.Extern Ieee
attribute [local go_sem] run_store_float

set_option maxHeartbeats 4000000 in
set_option maxRecDepth 100000 in
theorem made_any (A : Nat → Addr) (lo hi : Nat) (w : World) (h1 : lo < 18446744073709551616) (h2 : hi < 18446744073709551616) (hS : Sents A w) :
    Calls Tryz.prog 40 #[.agg #[.int .u64 (lo : Int), .int .u64 (hi : Int)]] w fun e w' => e = .returned (.agg #[.float .f64 (makeN lo hi).1, .float .f64 (makeN lo hi).2.1]) ∧ Below w.heap.size w w' := by
  have H1 : Hid (lo < 18446744073709551616) := h1
  have H2 : Hid (hi < 18446744073709551616) := h2
  clear h1 h2
  go_enter Tryz.func40, Tryz.ntmps40
  go_wp2_with fail
  have B0 := blk_old (blk_new w (Obj.cells #[Value.int IntKind.u64 lo, Value.int IntKind.u64 hi] 33)) (Obj.cells #[Value.float FloatKind.f64 0, Value.float FloatKind.f64 0] 67)
  have B1 := blk_new (w.alloc (Obj.cells #[Value.int IntKind.u64 lo, Value.int IntKind.u64 hi] 33)) (Obj.cells #[Value.float FloatKind.f64 0, Value.float FloatKind.f64 0] 67)
  have hW : Below w.heap.size w ((w.alloc (Obj.cells #[Value.int IntKind.u64 lo, Value.int IntKind.u64 hi] 33)).alloc (Obj.cells #[Value.float FloatKind.f64 0, Value.float FloatKind.f64 0] 67)) :=
    ((Below.refl _ _).alloc (Nat.le_refl _) _).alloc (by simp) _
  simp only [World.size_alloc] at B1
  generalize ((w.alloc (Obj.cells #[Value.int IntKind.u64 lo, Value.int IntKind.u64 hi] 33)).alloc (Obj.cells #[Value.float FloatKind.f64 0, Value.float FloatKind.f64 0] 67)) = W2 at *
  obtain ⟨k00, k01, -, -⟩ := blk2 B0
  have HB0 : Hid (W2.heap[w.heap.size]? = _) := B0
  have HB1 : Hid (W2.heap[w.heap.size + 1]? = _) := B1
  have HW : Hid (Below w.heap.size w W2) := hW
  have HS2 : Hid (Sents A W2) := hS.below hW (Nat.le_refl _)
  have hz : w.heap.size + 1 < W2.heap.size := (Array.getElem?_eq_some_iff.1 B1).1
  clear B0 B1 hW hS
  generalize hmk : makeN lo hi = r at *
  have HMK : Hid (makeN lo hi = r) := hmk
  clear hmk
  obtain ⟨rl, rh, rk⟩ := r
  have hrk : Hid (rk ≤ 2) := by
    show rk ≤ 2
    have := HMK.out
    unfold makeN at this
    split at this
    · simp at this; omega
    · split at this <;> simp at this <;> omega
  go_region_held3 (fun W => W.cell? ⟨w.heap.size, 0, none⟩ = some (.int .u64 (lo : Int)) ∧ W.cell? ⟨w.heap.size, 1, none⟩ = some (.int .u64 (hi : Int))) (first | (go_keep; done) | (refine ⟨?_, ?_⟩ <;> first | (go_keep; done) | (rw [cell_set_ne (by omega), cell_set_ne (by omega)]; assumption)))
    (first
      | (go_at_call_of 56 (Value.int IntKind.u64 (lo : Int)); refine (float_any lo _).mono ?_; rintro e w3 ⟨rfl, rfl⟩)
      | (go_at_call_of 56 (Value.int IntKind.u64 (hi : Int)); refine (float_any hi _).mono ?_; rintro e w3 ⟨rfl, rfl⟩)
      | (go_at_call 55; refine (make_any A lo hi _ H1.out H2.out ?_).mono ?_; exact HS2.out.below ((Below.refl _ _).drew) (Nat.le_refl _); rintro e w4 ⟨rfl, hb4⟩; rw [HMK.out]; dsimp only; have HB5 : Hid (Below W2.heap.size W2 w4) := (Below.refl _ W2).drew.trans (hb4.mono (Nat.le_refl _)); obtain ⟨k00, k01, -, -⟩ := blk2 (blk_below HB0.out HB5.out); clear hb4)
      | (go_at_call 55; refine (make_any A lo hi _ H1.out H2.out ?_).mono ?_; exact HS2.out.below (((Below.refl _ _).alloc (Nat.le_refl _) _).drew) (Nat.le_refl _); rintro e w4 ⟨rfl, hb4⟩; rw [HMK.out]; dsimp only; have HB5 : Hid (Below W2.heap.size W2 w4) := (((Below.refl _ W2).alloc (Nat.le_refl _) _).drew).trans (hb4.mono (by simp)); obtain ⟨k00, k01, -, -⟩ := blk2 (blk_below HB0.out HB5.out); have HQ : Hid (w4.heap[W2.heap.size]? = some (Obj.cells #[Value.float FloatKind.f64 0, Value.float FloatKind.f64 0] 67 (0, 0))) := blk_below (show (World.drew (W2.alloc _)).heap[W2.heap.size]? = _ from blk_new W2 _) hb4; obtain ⟨kq0, kq1, kq2, kq3⟩ := blk2 HQ.out; clear hb4))
  all_goals
    first
    | (have hbw := (HB5.out.setCell (p := ⟨W2.heap.size, 0, none⟩) (Nat.le_refl _) (.float .f64 rl)).setCell (p := ⟨W2.heap.size, 1, none⟩) (Nat.le_refl _) (.float .f64 rh)
       have B5 := blk_store2 (a := .float .f64 rl) (b := .float .f64 rh) HQ.out
       clear HQ kq0 kq1 kq2 kq3 k00 k01
       generalize (w4.setCell { block := W2.heap.size, off := 0 } (Value.float FloatKind.f64 rl)).setCell { block := W2.heap.size, off := 1 } (Value.float FloatKind.f64 rh) = W5 at *)
    | (have hbw := HB5.out.alloc HB5.out.size (Obj.cells #[Value.float FloatKind.f64 rl, Value.float FloatKind.f64 rh] 67)
       have B5 := blk_new w4 (Obj.cells #[Value.float FloatKind.f64 rl, Value.float FloatKind.f64 rh] 67)
       clear k00 k01
       generalize (w4.alloc (Obj.cells #[Value.float FloatKind.f64 rl, Value.float FloatKind.f64 rh] 67)) = W5 at *)
  all_goals
    have hS5 := HS2.out.below hbw (Nat.le_refl _)
    have B6 := blk_below HB1.out hbw
    have hb6 : Below w.heap.size w W5 := HW.out.trans (hbw.mono HW.out.size)
    have HB6 : Hid (W5.heap[w.heap.size + 1]? = _) := B6
    have HB7 : Hid (W5.heap[_]? = _) := B5
    have Hb6 : Hid (Below w.heap.size w W5) := hb6
    have HS5 : Hid (Sents A W5) := hS5
    clear hbw B5 B6 hb6 hS5 HB0 HB1 HW HS2 HB5
    obtain ⟨kg0, kg1, -, -⟩ := blk2 HB7.out
    obtain ⟨k0, k1, k2, k3⟩ := blk2 HB6.out
    go_wp2_with fail
    refine bodyPost_ret (v := .agg #[.float .f64 rl, .float .f64 rh]) (by simp [results, Tryz.results40, go_sem, k0, k1]) rfl ?_
    refine ⟨by rw [HMK.out], ?_⟩
    exact (Hb6.out.setCell (by simp) _).setCell (by simp) _
end Go.Proofs.YtonhpkigoplmaaaGreatDoor
namespace Go.Proofs.YtonhpkigoplmaaaGreatDoor
open Go.RowKit Go.Extern Ieee
attribute [local go_sem] run_store_float

end Go.Proofs.YtonhpkigoplmaaaGreatDoor
namespace Go.Proofs.YtonhpkigoplmaaaGreatDoor
open Go.RowKit Go.Extern Ieee
attribute [local go_sem] run_store_float

/-- The lower, the greater one of two floats, as the built-in functions give it. -/
def MinF (x y z : Nat) : Prop := ∀ (w : World) (ts : Array TypeId) (t : TypeId), (Builtin.min_ ts t #[.float .f64 x, .float .f64 y]).run Tryz.prog w = .ok (.float .f64 z) w
def MaxF (x y z : Nat) : Prop := ∀ (w : World) (ts : Array TypeId) (t : TypeId), (Builtin.max_ ts t #[.float .f64 x, .float .f64 y]).run Tryz.prog w = .ok (.float .f64 z) w

theorem c_ix0 (a b c d e f : Nat) (w : World) : (Instr.index 180 (.agg #[.float .f64 a, .float .f64 b, .float .f64 c, .float .f64 d, .float .f64 e, .float .f64 f]) (.int .i64 0)).run Tryz.prog w = .ok (.agg #[.float .f64 a, .float .f64 b]) w := by kernel_rfl
theorem c_ix1 (a b c d e f : Nat) (w : World) : (Instr.index 180 (.agg #[.float .f64 a, .float .f64 b, .float .f64 c, .float .f64 d, .float .f64 e, .float .f64 f]) (.int .i64 1)).run Tryz.prog w = .ok (.agg #[.float .f64 c, .float .f64 d]) w := by kernel_rfl
theorem c_ix2 (a b c d e f : Nat) (w : World) : (Instr.index 180 (.agg #[.float .f64 a, .float .f64 b, .float .f64 c, .float .f64 d, .float .f64 e, .float .f64 f]) (.int .i64 2)).run Tryz.prog w = .ok (.agg #[.float .f64 e, .float .f64 f]) w := by kernel_rfl

set_option maxRecDepth 100000 in
set_option maxHeartbeats 4000000 in
theorem corners_mul (al ah bl bh d1 u1 d2 u2 d3 u3 d4 u4 l2 l3 lo g2 g3 hi : Nat) (w : World)
    (m1 : MinF d1 d2 l2) (m2 : MinF l2 d3 l3) (m3 : MinF l3 d4 lo) (x1 : MaxF u1 u2 g2) (x2 : MaxF g2 u3 g3) (x3 : MaxF g3 u4 hi)
    (h1 : Gives 92 #[.float .f64 al, .float .f64 bl] d1 u1) (h2 : Gives 92 #[.float .f64 al, .float .f64 bh] d2 u2) (h3 : Gives 92 #[.float .f64 ah, .float .f64 bl] d3 u3) (h4 : Gives 92 #[.float .f64 ah, .float .f64 bh] d4 u4) :
    Calls Tryz.prog 91 #[.func (.func 92) #[] #[], .agg #[.float .f64 al, .float .f64 ah], .agg #[.float .f64 bl, .float .f64 bh]] w fun ev w' => ev = .returned (.tuple #[.float .f64 lo, .float .f64 hi]) ∧ Below w.heap.size w w' := by
  have H1 : Hid (∀ w, Calls Tryz.prog 92 #[.float .f64 al, .float .f64 bl] w fun ev w' => ev = .returned (.agg #[.float .f64 d1, .float .f64 u1]) ∧ Below w.heap.size w w') := h1
  have H2 : Hid (∀ w, Calls Tryz.prog 92 #[.float .f64 al, .float .f64 bh] w fun ev w' => ev = .returned (.agg #[.float .f64 d2, .float .f64 u2]) ∧ Below w.heap.size w w') := h2
  have H3 : Hid (∀ w, Calls Tryz.prog 92 #[.float .f64 ah, .float .f64 bl] w fun ev w' => ev = .returned (.agg #[.float .f64 d3, .float .f64 u3]) ∧ Below w.heap.size w w') := h3
  have H4 : Hid (∀ w, Calls Tryz.prog 92 #[.float .f64 ah, .float .f64 bh] w fun ev w' => ev = .returned (.agg #[.float .f64 d4, .float .f64 u4]) ∧ Below w.heap.size w w') := h4
  have f0 := c_fld0
  have f1 := c_fld1
  clear h1 h2 h3 h4
  go_enter Tryz.func91, Tryz.ntmps91
  go_wp2_with fail
  have B0 := blk_old (blk_new w (Obj.cells #[.float .f64 al, .float .f64 ah] 67)) (Obj.cells #[.float .f64 bl, .float .f64 bh] 67)
  have B1 := blk_new (w.alloc (Obj.cells #[.float .f64 al, .float .f64 ah] 67)) (Obj.cells #[.float .f64 bl, .float .f64 bh] 67)
  have hW : Below w.heap.size w ((w.alloc (Obj.cells #[.float .f64 al, .float .f64 ah] 67)).alloc (Obj.cells #[.float .f64 bl, .float .f64 bh] 67)) := ((Below.refl _ _).alloc (Nat.le_refl _) _).alloc (by simp) _
  simp only [World.size_alloc] at B1
  generalize ((w.alloc (Obj.cells #[.float .f64 al, .float .f64 ah] 67)).alloc (Obj.cells #[.float .f64 bl, .float .f64 bh] 67)) = W2 at *
  refine Calls.mono (H1.out _) ?_
  rintro e w3 ⟨rfl, hb3⟩
  have C0 := blk_old (blk_below B0 hb3) (Obj.cells #[.float .f64 d1, .float .f64 u1] 130)
  have C1 := blk_old (blk_below B1 hb3) (Obj.cells #[.float .f64 d1, .float .f64 u1] 130)
  have hX : Below w.heap.size w ((w3.alloc (Obj.cells #[.float .f64 d1, .float .f64 u1] 130)).drew) := ((hW.trans (hb3.mono hW.size)).alloc (Nat.le_trans hW.size hb3.size) _).drew
  clear B0 B1 hb3 hW H1
  go_wp2_with fail
  go_region
  have HC0 : Hid ((w3.alloc (Obj.cells #[.float .f64 d1, .float .f64 u1] 130)).drew.heap[w.heap.size]? = _) := C0
  have HC1 : Hid ((w3.alloc (Obj.cells #[.float .f64 d1, .float .f64 u1] 130)).drew.heap[w.heap.size + 1]? = _) := C1
  have HX : Hid (Below w.heap.size w (w3.alloc (Obj.cells #[.float .f64 d1, .float .f64 u1] 130)).drew) := hX
  clear C0 C1 hX
  generalize (w3.alloc (Obj.cells #[.float .f64 d1, .float .f64 u1] 130)).drew = W4 at *
  obtain ⟨a0, a1, -, -⟩ := blk2 HC0.out
  obtain ⟨b0, b1, -, -⟩ := blk2 HC1.out
  go_wp2_with fail
  have HD0 : Hid (W4.drew.heap[w.heap.size]? = _) := HC0.out
  have HD1 : Hid (W4.drew.heap[w.heap.size + 1]? = _) := HC1.out
  have HY : Hid (Below w.heap.size w W4.drew) := HX.out.drew
  clear HC0 HC1 HX
  go_region_held3 (fun W => W.cell? ⟨w.heap.size, 0, none⟩ = some (.float .f64 al) ∧ W.cell? ⟨w.heap.size, 1, none⟩ = some (.float .f64 ah) ∧ W.cell? ⟨w.heap.size + 1, 0, none⟩ = some (.float .f64 bl) ∧ W.cell? ⟨w.heap.size + 1, 1, none⟩ = some (.float .f64 bh)) (first | (go_keep; done) | (refine ⟨?_, ?_, ?_, ?_⟩ <;> first | (go_keep; done) | assumption))
    (first
      | (go_at_call 92; with_reducible (refine Calls.mono (H2.out _) ?_); rintro e w5 ⟨rfl, hb5⟩
         have HB5 : Hid (Below _ _ w5) := hb5
         obtain ⟨a0, a1, -, -⟩ := blk2 (blk_below HD0.out hb5)
         obtain ⟨b0, b1, -, -⟩ := blk2 (blk_below HD1.out hb5)
         clear hb5)
      | (go_at_call 92; with_reducible (refine Calls.mono (H3.out _) ?_); rintro e w6 ⟨rfl, hb6⟩
         have HB6 : Hid (Below _ _ w6) := hb6
         obtain ⟨a0, a1, -, -⟩ := blk2 (blk_below (blk_below HD0.out HB5.out) hb6)
         obtain ⟨b0, b1, -, -⟩ := blk2 (blk_below (blk_below HD1.out HB5.out) hb6)
         clear hb6)
      | (go_at_call 92; with_reducible (refine Calls.mono (H4.out _) ?_); rintro e w7 ⟨rfl, hb7⟩
         have HB7 : Hid (Below _ _ w7) := hb7
         obtain ⟨a0, a1, -, -⟩ := blk2 (blk_below (blk_below (blk_below HD0.out HB5.out) HB6.out) hb7)
         obtain ⟨b0, b1, -, -⟩ := blk2 (blk_below (blk_below (blk_below HD1.out HB5.out) HB6.out) hb7)
         clear hb7))
  have HZ : Hid (Below w.heap.size w w7) := ((HY.out.trans (HB5.out.mono HY.out.size)).trans (HB6.out.mono (Nat.le_trans HY.out.size HB5.out.size))).trans (HB7.out.mono (Nat.le_trans (Nat.le_trans HY.out.size HB5.out.size) HB6.out.size))
  clear HB5 HB6 HB7 HY HD0 HD1 H2 H3 H4 a0 a1 b0 b1
  have i0 := c_ix0 d2 u2 d3 u3 d4 u4
  have i1 := c_ix1 d2 u2 d3 u3 d4 u4
  have i2 := c_ix2 d2 u2 d3 u3 d4 u4
  unfold MinF at m1 m2 m3
  unfold MaxF at x1 x2 x3
  go_wp2_with fail
  refine wp_loop_rounds 4 ?_
  rw [rounds_succ]
  go_wp2_with fail
  go_region
  go_wp2_with fail
  rw [rounds_succ]
  go_wp2_with fail
  go_region
  go_wp2_with fail
  rw [rounds_succ]
  go_wp2_with fail
  go_region
  go_wp2_with fail
  rw [rounds_succ]
  go_wp2_with fail
  have hZ8 : Below w.heap.size w (((w7.alloc (Obj.cells #[.float .f64 d2, .float .f64 u2] 130)).alloc (Obj.cells #[.float .f64 d3, .float .f64 u3] 130)).alloc (Obj.cells #[.float .f64 d4, .float .f64 u4] 130)).drew.drew.drew := (((HZ.out.alloc HZ.out.size _).alloc (by have := HZ.out.size; simp; omega) _).alloc (by have := HZ.out.size; simp; omega) _).drew.drew.drew
  refine bodyPost_ret (v := .tuple #[.float .f64 lo, .float .f64 hi]) (by simp [results, Tryz.results91, go_sem]) rfl ?_
  exact ⟨rfl, hZ8⟩
end Go.Proofs.YtonhpkigoplmaaaGreatDoor
namespace Go.Proofs.YtonhpkigoplmaaaGreatDoor
open Go.RowKit Go.Extern Ieee
attribute [local go_sem] run_store_float

set_option maxRecDepth 100000 in
set_option maxHeartbeats 4000000 in
theorem corners_quo (al ah bl bh d1 u1 d2 u2 d3 u3 d4 u4 l2 l3 lo g2 g3 hi : Nat) (w : World)
    (m1 : MinF d1 d2 l2) (m2 : MinF l2 d3 l3) (m3 : MinF l3 d4 lo) (x1 : MaxF u1 u2 g2) (x2 : MaxF g2 u3 g3) (x3 : MaxF g3 u4 hi)
    (h1 : Gives 94 #[.float .f64 al, .float .f64 bl] d1 u1) (h2 : Gives 94 #[.float .f64 al, .float .f64 bh] d2 u2) (h3 : Gives 94 #[.float .f64 ah, .float .f64 bl] d3 u3) (h4 : Gives 94 #[.float .f64 ah, .float .f64 bh] d4 u4) :
    Calls Tryz.prog 91 #[.func (.func 94) #[] #[], .agg #[.float .f64 al, .float .f64 ah], .agg #[.float .f64 bl, .float .f64 bh]] w fun ev w' => ev = .returned (.tuple #[.float .f64 lo, .float .f64 hi]) ∧ Below w.heap.size w w' := by
  have H1 : Hid (∀ w, Calls Tryz.prog 94 #[.float .f64 al, .float .f64 bl] w fun ev w' => ev = .returned (.agg #[.float .f64 d1, .float .f64 u1]) ∧ Below w.heap.size w w') := h1
  have H2 : Hid (∀ w, Calls Tryz.prog 94 #[.float .f64 al, .float .f64 bh] w fun ev w' => ev = .returned (.agg #[.float .f64 d2, .float .f64 u2]) ∧ Below w.heap.size w w') := h2
  have H3 : Hid (∀ w, Calls Tryz.prog 94 #[.float .f64 ah, .float .f64 bl] w fun ev w' => ev = .returned (.agg #[.float .f64 d3, .float .f64 u3]) ∧ Below w.heap.size w w') := h3
  have H4 : Hid (∀ w, Calls Tryz.prog 94 #[.float .f64 ah, .float .f64 bh] w fun ev w' => ev = .returned (.agg #[.float .f64 d4, .float .f64 u4]) ∧ Below w.heap.size w w') := h4
  have f0 := c_fld0
  have f1 := c_fld1
  clear h1 h2 h3 h4
  go_enter Tryz.func91, Tryz.ntmps91
  go_wp2_with fail
  have B0 := blk_old (blk_new w (Obj.cells #[.float .f64 al, .float .f64 ah] 67)) (Obj.cells #[.float .f64 bl, .float .f64 bh] 67)
  have B1 := blk_new (w.alloc (Obj.cells #[.float .f64 al, .float .f64 ah] 67)) (Obj.cells #[.float .f64 bl, .float .f64 bh] 67)
  have hW : Below w.heap.size w ((w.alloc (Obj.cells #[.float .f64 al, .float .f64 ah] 67)).alloc (Obj.cells #[.float .f64 bl, .float .f64 bh] 67)) := ((Below.refl _ _).alloc (Nat.le_refl _) _).alloc (by simp) _
  simp only [World.size_alloc] at B1
  generalize ((w.alloc (Obj.cells #[.float .f64 al, .float .f64 ah] 67)).alloc (Obj.cells #[.float .f64 bl, .float .f64 bh] 67)) = W2 at *
  refine Calls.mono (H1.out _) ?_
  rintro e w3 ⟨rfl, hb3⟩
  have C0 := blk_old (blk_below B0 hb3) (Obj.cells #[.float .f64 d1, .float .f64 u1] 130)
  have C1 := blk_old (blk_below B1 hb3) (Obj.cells #[.float .f64 d1, .float .f64 u1] 130)
  have hX : Below w.heap.size w ((w3.alloc (Obj.cells #[.float .f64 d1, .float .f64 u1] 130)).drew) := ((hW.trans (hb3.mono hW.size)).alloc (Nat.le_trans hW.size hb3.size) _).drew
  clear B0 B1 hb3 hW H1
  go_wp2_with fail
  go_region
  have HC0 : Hid ((w3.alloc (Obj.cells #[.float .f64 d1, .float .f64 u1] 130)).drew.heap[w.heap.size]? = _) := C0
  have HC1 : Hid ((w3.alloc (Obj.cells #[.float .f64 d1, .float .f64 u1] 130)).drew.heap[w.heap.size + 1]? = _) := C1
  have HX : Hid (Below w.heap.size w (w3.alloc (Obj.cells #[.float .f64 d1, .float .f64 u1] 130)).drew) := hX
  clear C0 C1 hX
  generalize (w3.alloc (Obj.cells #[.float .f64 d1, .float .f64 u1] 130)).drew = W4 at *
  obtain ⟨a0, a1, -, -⟩ := blk2 HC0.out
  obtain ⟨b0, b1, -, -⟩ := blk2 HC1.out
  go_wp2_with fail
  have HD0 : Hid (W4.drew.heap[w.heap.size]? = _) := HC0.out
  have HD1 : Hid (W4.drew.heap[w.heap.size + 1]? = _) := HC1.out
  have HY : Hid (Below w.heap.size w W4.drew) := HX.out.drew
  clear HC0 HC1 HX
  go_region_held3 (fun W => W.cell? ⟨w.heap.size, 0, none⟩ = some (.float .f64 al) ∧ W.cell? ⟨w.heap.size, 1, none⟩ = some (.float .f64 ah) ∧ W.cell? ⟨w.heap.size + 1, 0, none⟩ = some (.float .f64 bl) ∧ W.cell? ⟨w.heap.size + 1, 1, none⟩ = some (.float .f64 bh)) (first | (go_keep; done) | (refine ⟨?_, ?_, ?_, ?_⟩ <;> first | (go_keep; done) | assumption))
    (first
      | (go_at_call 94; with_reducible (refine Calls.mono (H2.out _) ?_); rintro e w5 ⟨rfl, hb5⟩
         have HB5 : Hid (Below _ _ w5) := hb5
         obtain ⟨a0, a1, -, -⟩ := blk2 (blk_below HD0.out hb5)
         obtain ⟨b0, b1, -, -⟩ := blk2 (blk_below HD1.out hb5)
         clear hb5)
      | (go_at_call 94; with_reducible (refine Calls.mono (H3.out _) ?_); rintro e w6 ⟨rfl, hb6⟩
         have HB6 : Hid (Below _ _ w6) := hb6
         obtain ⟨a0, a1, -, -⟩ := blk2 (blk_below (blk_below HD0.out HB5.out) hb6)
         obtain ⟨b0, b1, -, -⟩ := blk2 (blk_below (blk_below HD1.out HB5.out) hb6)
         clear hb6)
      | (go_at_call 94; with_reducible (refine Calls.mono (H4.out _) ?_); rintro e w7 ⟨rfl, hb7⟩
         have HB7 : Hid (Below _ _ w7) := hb7
         obtain ⟨a0, a1, -, -⟩ := blk2 (blk_below (blk_below (blk_below HD0.out HB5.out) HB6.out) hb7)
         obtain ⟨b0, b1, -, -⟩ := blk2 (blk_below (blk_below (blk_below HD1.out HB5.out) HB6.out) hb7)
         clear hb7))
  have HZ : Hid (Below w.heap.size w w7) := ((HY.out.trans (HB5.out.mono HY.out.size)).trans (HB6.out.mono (Nat.le_trans HY.out.size HB5.out.size))).trans (HB7.out.mono (Nat.le_trans (Nat.le_trans HY.out.size HB5.out.size) HB6.out.size))
  clear HB5 HB6 HB7 HY HD0 HD1 H2 H3 H4 a0 a1 b0 b1
  have i0 := c_ix0 d2 u2 d3 u3 d4 u4
  have i1 := c_ix1 d2 u2 d3 u3 d4 u4
  have i2 := c_ix2 d2 u2 d3 u3 d4 u4
  unfold MinF at m1 m2 m3
  unfold MaxF at x1 x2 x3
  go_wp2_with fail
  refine wp_loop_rounds 4 ?_
  rw [rounds_succ]
  go_wp2_with fail
  go_region
  go_wp2_with fail
  rw [rounds_succ]
  go_wp2_with fail
  go_region
  go_wp2_with fail
  rw [rounds_succ]
  go_wp2_with fail
  go_region
  go_wp2_with fail
  rw [rounds_succ]
  go_wp2_with fail
  have hZ8 : Below w.heap.size w (((w7.alloc (Obj.cells #[.float .f64 d2, .float .f64 u2] 130)).alloc (Obj.cells #[.float .f64 d3, .float .f64 u3] 130)).alloc (Obj.cells #[.float .f64 d4, .float .f64 u4] 130)).drew.drew.drew := (((HZ.out.alloc HZ.out.size _).alloc (by have := HZ.out.size; simp; omega) _).alloc (by have := HZ.out.size; simp; omega) _).drew.drew.drew
  refine bodyPost_ret (v := .tuple #[.float .f64 lo, .float .f64 hi]) (by simp [results, Tryz.results91, go_sem]) rfl ?_
  exact ⟨rfl, hZ8⟩
end Go.Proofs.YtonhpkigoplmaaaGreatDoor
namespace Go.Proofs.YtonhpkigoplmaaaGreatDoor
open Go.RowKit Go.Extern Ieee

end Go.Proofs.YtonhpkigoplmaaaGreatDoor
namespace Go.Proofs.YtonhpkigoplmaaaGreatDoor
open Go.RowKit Go.Extern Ieee

theorem posV_le (x : Bool × Nat × Int) : posV x (-1) ≤ posV x 1 := by
  obtain ⟨s, n, e⟩ := x
  unfold posV
  simp only
  by_cases h0 : n = 0
  · rw [if_pos h0, if_pos h0]; exact Int.le_refl _
  · rw [if_neg h0, if_neg h0]
    have h1 : endR s n e (-1) = rung n e + if s && inex n then 1 else 0 := by unfold endR; rw [offS_down]
    have h2 : endR s n e 1 = rung n e + if (!s) && inex n then 1 else 0 := by unfold endR; rw [offS_up]
    unfold sgI
    cases s
    · rw [if_neg Bool.false_ne_true, if_neg Bool.false_ne_true]
      apply clampR_mono
      rw [h1, h2]
      simp only [Bool.false_and, Bool.false_eq_true, if_false]
      split <;> omega
    · rw [if_pos rfl, if_pos rfl]
      have : clampR (endR true n e 1) ≤ clampR (endR true n e (-1)) := by
        apply clampR_mono
        rw [h1, h2]
        simp only [Bool.not_true, Bool.false_and, Bool.false_eq_true, if_false]
        split <;> omega
      omega

theorem fr_wdP {x : Bool × Nat × Int} {way : Int} (h : plP (posV x way) = true) : FR (wdP (posV x way)) (posV x way) := by
  by_cases h0 : x.2.1 = 0
  · have : posV x way = 0 := by unfold posV; rw [if_pos h0]
    rw [this, wdP_zero]; exact FR_zero
  · have hp : posV x way = sgI x.1 (clampR (endR x.1 x.2.1 x.2.2 way)) := by unfold posV; rw [if_neg h0]
    have h' := h
    rw [hp] at h'
    obtain ⟨a, b, c⟩ := plP_sg x.1 h'
    have hw : wdP (posV x way) = wd x.1 (endR x.1 x.2.1 x.2.2 way).toNat := by rw [hp, c, wdP_sg x.1 (by omega)]
    rw [hw]
    exact FR_end x.1 way h0 (by omega) (by omega)

theorem iv_wdP {x y : Bool × Nat × Int} {wx wy : Int} (h1 : plP (posV x wx) = true) (h2 : plP (posV y wy) = true) (hle : posV x wx ≤ posV y wy) : Iv (wdP (posV x wx)) (wdP (posV y wy)) := by
  have f1 := fr_wdP h1
  have f2 := fr_wdP h2
  exact ⟨f1.lt, f2.lt, f1.nz, f2.nz, plT_some (by rw [f1.plain]; exact h1), plT_some (by rw [f2.plain]; exact h2), by rw [f1.pos, f2.pos]; exact hle⟩

theorem make_iv {l h : Nat} (i : Iv l h) : makeN l h = (l, h, 0) := by
  have e1 : posW l = l := by
    unfold posW
    by_cases hz : l % 9223372036854775808 = 0
    · rw [if_pos hz]; have := i.lt1; have := i.z1; omega
    · rw [if_neg hz]
  have e2 : posW h = h := by
    unfold posW
    by_cases hz : h % 9223372036854775808 = 0
    · rw [if_pos hz]; have := i.lt2; have := i.z2; omega
    · rw [if_neg hz]
  have hl : lessW h l = false := by
    show lessT (plT h) (plT l) = false
    rw [lessT_pos i i.low]
    exact decide_eq_false (by have := i.le; omega)
  unfold makeN
  rw [if_neg (by rw [i.p1, i.p2]; simp), hl, if_neg Bool.false_ne_true, e1, e2]

/-- The float below, above a whole number. -/
def fl (n : Int) : Nat := wdP (posV (wholeN n) (-1))
def fh (n : Int) : Nat := wdP (posV (wholeN n) 1)

theorem plP_whole {n : Int} (h : n.natAbs ≤ 1152921504606846976) (way : Int) : plP (posV (wholeN n) way) = true := by
  by_cases h0 : n.natAbs = 0
  · have : posV (wholeN n) way = 0 := by unfold posV wholeN; rw [if_pos h0]
    rw [this]; rfl
  · have hp : posV (wholeN n) way = sgI (decide (n < 0)) (clampR (endR (decide (n < 0)) n.natAbs 0 way)) := by unfold posV wholeN; rw [if_neg h0]
    rw [hp]
    have hb : bl n.natAbs ≤ 61 := bl_le (Nat.lt_of_le_of_lt h (by decide))
    have hb1 := bl_pos (n := n.natAbs) (by omega)
    have rb := rung_bounds 0 h0
    have eb := endR_bounds (decide (n < 0)) (n := n.natAbs) 0 way
    generalize endR (decide (n < 0)) n.natAbs 0 way = r at *
    have hc : clampR r = r := by have := clampR_cases r; omega
    rw [hc]
    unfold plP sgI
    rw [decide_eq_true_eq]
    right
    cases decide (n < 0)
    · rw [if_neg Bool.false_ne_true]; omega
    · rw [if_pos rfl]; omega

theorem iv_whole {n : Int} (h : n.natAbs ≤ 1152921504606846976) : Iv (fl n) (fh n) := iv_wdP (plP_whole h _) (plP_whole h _) (posV_le _)

theorem exact_whole {n : Int} (h : n.natAbs ≤ 1152921504606846976) : refExactN 2 n = (fl n, fh n, 0) := by
  unfold refExactN
  rw [if_pos (Or.inr rfl), aroundN_posV, boxP_plain (plP_whole h _) (plP_whole h _)]
  rfl

theorem same_whole {n : Int} (h : n.natAbs < 9007199254740992) : fh n = fl n ∧ posV (wholeN n) 1 = posV (wholeN n) (-1) := by
  have : posV (wholeN n) 1 = posV (wholeN n) (-1) := by
    have hi : inex n.natAbs = false := inex_small (bl_le (by rw [p53]; exact h))
    unfold posV wholeN endR
    simp only [hi, Bool.and_false]
  exact ⟨by unfold fh fl; rw [this], this⟩

/-- A small whole number's float means it. -/
theorem means_fl {n : Int} (h : n.natAbs < 9007199254740992) : MeansT 0 n (plT (fl n)) := by
  have h' : n.natAbs ≤ 1152921504606846976 := by omega
  have h1 : leV (plT (fl n)) (wholeN n) := encl_low (plP_whole h' _)
  have h2 : leV (wholeN n) (plT (fh n)) := encl_high (plP_whole h' _)
  rw [(same_whole h).1] at h2
  exact means_anti (means_self 0 n) h2 h1

end Go.Proofs.YtonhpkigoplmaaaGreatDoor
