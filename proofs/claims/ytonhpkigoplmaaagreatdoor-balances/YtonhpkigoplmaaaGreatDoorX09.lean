/-
  QuoM, QuoP, QuoQ, RootM, RootP, RefP, RefQ, OverM, RefO, RefR, RefS, RefT, RefU, RefV, RefW, RefX, RefY, ErrO, ErrP, CodeO, With.
-/
import Derived.Test.YtonhpkigoplmaaaGreatDoorX08
import Derived.Test.YtonhpkigoplmaaaGreatDoorX04
import Derived.Test.YtonhpkigoplmaaaGreatDoorX03
namespace Go.Proofs.YtonhpkigoplmaaaGreatDoor
open Go.RowKit Go.Extern Ieee

/-- What encloseref.marked gives. -/
def markN (s : Bool) (q : Nat) (e : Int) (whole : Bool) : Bool × Nat × Int := (s && decide (2 * q + (if whole then 0 else 1) ≠ 0), 2 * q + (if whole then 0 else 1), e - 1)

/-- What encloseref.quotient gives. -/
def quoN (x y : Bool × Nat × Int) : Bool × Nat × Int :=
  markN (x.1 != y.1) (x.2.1 * 2 ^ (60 + bl y.2.1) / y.2.1) (x.2.2 - (60 + bl y.2.1 : Nat) - y.2.2) (decide (x.2.1 * 2 ^ (60 + bl y.2.1) % y.2.1 = 0))

theorem order_negW {q : Nat} {o : Ordering} (hq : q < 18446744073709551616) (hn : q % 9223372036854775808 ≤ 9218868437227405312) (h : FloatKind.f64.format.order q 0 = some o) : FloatKind.f64.format.order (negW q) 0 = some o.swap := by
  have hz : (0 : Nat) = wd false 0 := rfl
  have e : ∀ x : Int, compare (-x) 0 = (compare x 0).swap := by
    intro x
    rcases (show x < 0 ∨ x = 0 ∨ 0 < x by omega) with h | h | h
    · rw [cmp_lt' h, cmp_gt' (show (0 : Int) < -x by omega)]; rfl
    · rw [cmp_eq' h, cmp_eq' (show -x = 0 by omega)]; rfl
    · rw [cmp_gt' h, cmp_lt' (show -x < (0 : Int) by omega)]; rfl
  change double.order q 0 = some o at h
  show double.order (negW q) 0 = _
  rw [← wd_self hq] at h ⊢
  rw [hz] at h ⊢
  rw [negW_wd (by omega), order_wd hn (by omega)]
  rw [order_wd hn (by omega)] at h
  cases h
  have e1 : sg false 0 = 0 := rfl
  rw [e1, ← e]
  congr 2
  unfold sg
  cases decide (9223372036854775808 ≤ q) <;> simp

theorem nearest_lt (s : Bool) (n : Nat) (e : Int) : double.nearest s n e < 18446744073709551616 ∧ double.nearest s n e % 9223372036854775808 ≤ 9218868437227405312 := by
  have key : ∀ R, R ≤ 9218868437227405312 → wd s R < 18446744073709551616 ∧ wd s R % 9223372036854775808 ≤ 9218868437227405312 := by
    intro R h
    have : wd s R % 9223372036854775808 = R := by unfold wd; split <;> omega
    exact ⟨wd_lt (by omega), by omega⟩
  by_cases h0 : n = 0
  · subst h0
    have : double.nearest s 0 e = wd s 0 := by cases s <;> rfl
    rw [this]; exact key 0 (by omega)
  · obtain ⟨R, h1, h2, _⟩ := nearest_any s e h0
    rw [h1]; exact key R h2

theorem sum_write3 (s t : Bool) (m n : Nat) (i j : Int) : ∃ q o, (Datum.sum (.number s m i) (.number t n j)).map double.write = some q ∧ FloatKind.f64.format.order q 0 = some o ∧ q < 18446744073709551616 ∧ q % 9223372036854775808 ≤ 9218868437227405312 := by
  obtain ⟨o, ho⟩ := order_write (if signed s m (i - min i j).toNat + signed t n (j - min i j).toNat = 0 then s && t else decide (signed s m (i - min i j).toNat + signed t n (j - min i j).toNat < 0)) (signed s m (i - min i j).toNat + signed t n (j - min i j).toNat).natAbs (min i j)
  obtain ⟨h1, h2⟩ := nearest_lt (if signed s m (i - min i j).toNat + signed t n (j - min i j).toNat = 0 then s && t else decide (signed s m (i - min i j).toNat + signed t n (j - min i j).toNat < 0)) (signed s m (i - min i j).toNat + signed t n (j - min i j).toNat).natAbs (min i j)
  exact ⟨_, o, rfl, ho, h1, h2⟩

theorem sum_write2 (s t : Bool) (m n : Nat) (i j : Int) (b : Bool) : ∃ q o, (Datum.sum (.number s m i) (.number t n j)).map double.write = some q ∧ FloatKind.f64.format.order (if b then negW q else q) 0 = some o := by
  obtain ⟨q, o, h0, ho, h1, h2⟩ := sum_write3 s t m n i j
  cases b
  · refine ⟨q, o, h0, ?_⟩
    rw [if_neg Bool.false_ne_true]; exact ho
  · refine ⟨q, o.swap, h0, ?_⟩
    rw [if_pos rfl]; exact order_negW h1 h2 ho

/-- The sign of a number. -/
def sgnO (z : Int) : Ordering := if z = 0 then .eq else if z < 0 then .lt else .gt

theorem sgnO_sg {s : Bool} {x y : Int} (h1 : x < 0 ↔ y < 0) (h2 : x = 0 ↔ y = 0) : sgnO (if s then -x else x) = sgnO (if s then -y else y) := by
  unfold sgnO
  cases s
  · simp only [Bool.false_eq_true, if_false]
    by_cases hx : x = 0
    · rw [if_pos hx, if_pos (h2.1 hx)]
    · rw [if_neg hx, if_neg (fun h => hx (h2.2 h))]
      by_cases hl : x < 0
      · rw [if_pos hl, if_pos (h1.1 hl)]
      · rw [if_neg hl, if_neg (fun h => hl (h1.2 h))]
  · simp only [if_true]
    by_cases hx : x = 0
    · have := h2.1 hx
      rw [if_pos (show -x = 0 by omega), if_pos (show -y = 0 by omega)]
    · have hy : ¬ y = 0 := fun h => hx (h2.2 h)
      rw [if_neg (show ¬ -x = 0 by omega), if_neg (show ¬ -y = 0 by omega)]
      by_cases hl : x < 0
      · have := h1.1 hl
        rw [if_neg (show ¬ -x < 0 by omega), if_neg (show ¬ -y < 0 by omega)]
      · have : ¬ y < 0 := fun h => hl (h1.2 h)
        rw [if_pos (show -x < 0 by omega), if_pos (show -y < 0 by omega)]

theorem sgnO_swap (x : Int) : (sgnO x).swap = sgnO (-x) := by
  unfold sgnO
  rcases (show x < 0 ∨ x = 0 ∨ 0 < x by omega) with h | h | h
  · rw [if_neg (by omega), if_pos h, if_neg (by omega), if_neg (by omega)]; rfl
  · rw [if_pos h, if_pos (by omega)]; rfl
  · rw [if_neg (by omega), if_neg (by omega), if_neg (by omega), if_pos (by omega)]; rfl
end Go.Proofs.YtonhpkigoplmaaaGreatDoor
namespace Go.Proofs.YtonhpkigoplmaaaGreatDoor
open Go.RowKit Go.Extern Ieee

/-- The quotient of two floats' numbers, to 55 bits and a mark. -/
def q1 (m n : Nat) : Nat := 2 * (m * 2 ^ 54 / n) + if m * 2 ^ 54 % n = 0 then 0 else 1

theorem q1_bounds {m n : Nat} (h1 : 4503599627370496 ≤ m) (h2 : m < 9007199254740992) (h3 : 4503599627370496 ≤ n) (h4 : n < 9007199254740992) :
    9007199254740992 ≤ m * 2 ^ 54 / n ∧ m * 2 ^ 54 / n < 36028797018963968 := by
  have p54 : (2 : Nat) ^ 54 = 18014398509481984 := by decide
  rw [p54]
  constructor
  · rw [Nat.le_div_iff_mul_le (by omega)]; omega
  · rw [Nat.div_lt_iff_lt_mul (by omega)]; omega

theorem q1_bl {m n : Nat} (h1 : 4503599627370496 ≤ m) (h2 : m < 9007199254740992) (h3 : 4503599627370496 ≤ n) (h4 : n < 9007199254740992) : 55 ≤ bl (q1 m n) ∧ bl (q1 m n) ≤ 56 := by
  obtain ⟨c1, c2⟩ := q1_bounds h1 h2 h3 h4
  have p54 : (2 : Nat) ^ 54 = 18014398509481984 := by decide
  have p56 : (2 : Nat) ^ 56 = 72057594037927936 := by decide
  constructor
  · apply bl_gt
    rw [p54]
    unfold q1
    omega
  · apply bl_le
    rw [p56]
    unfold q1
    split <;> omega

theorem div_plain {x y : Nat} {sx sy : Bool} {mx my : Nat} {ex ey : Int} (rx : double.read x = .number sx mx ex) (ry : double.read y = .number sy my ey) (x1 : 4503599627370496 ≤ mx) (x2 : mx < 9007199254740992) (y1 : 4503599627370496 ≤ my) (y2 : my < 9007199254740992) :
    double.div x y = some (double.nearest (sx ^^ sy) (q1 mx my) (ex - ey - 55)) := by
  have l1 := bl_log2 (n := mx) (by omega)
  have l2 := bl_log2 (n := my) (by omega)
  rw [bl53 x1 x2] at l1
  rw [bl53 y1 y2] at l2
  have hfb : double.fractionBits = 52 := rfl
  unfold Format.div
  rw [rx, ry]
  simp only [Datum.quotient, hfb]
  rw [if_neg (by omega), show 52 + 2 + my.log2 - mx.log2 = 54 by omega, Nat.shiftLeft_eq]
  simp only [Option.map_some, Format.write]
  have e1 : ex - ey - ((54 : Nat) : Int) - 1 = ex - ey - 55 := by omega
  have e2 : 2 * (mx * 2 ^ 54 / my) + (mx * 2 ^ 54 % my != 0).toNat = q1 mx my := by
    unfold q1
    by_cases h : mx * 2 ^ 54 % my = 0
    · rw [h, if_pos rfl]; rfl
    · rw [if_neg h, (bne_iff_ne).2 h]; rfl
  rw [e1, e2]

/-- What is left of a quotient, times the divisor: its sign. -/
theorem quo_sign {m n : Nat} (h1 : 4503599627370496 ≤ m) (h2 : m < 9007199254740992) (h3 : 4503599627370496 ≤ n) (h4 : n < 9007199254740992) :
    (q1 m n < nearM (q1 m n) ↔ m * 2 ^ 55 < nearM (q1 m n) * n) ∧ (q1 m n = nearM (q1 m n) ↔ m * 2 ^ 55 = nearM (q1 m n) * n) := by
  have hd := Nat.div_add_mod (m * 2 ^ 54) n
  have hl := Nat.mod_lt (m * 2 ^ 54) (show 0 < n by omega)
  have e55 : m * 2 ^ 55 = 2 * (m * 2 ^ 54) := by rw [Nat.pow_succ 2 54, ← Nat.mul_assoc, Nat.mul_comm]
  refine mark_sign (c := m * 2 ^ 54 / n) (by omega) (nearM_even (by have := q1_bl h1 h2 h3 h4; omega)) ?_
  rw [e55]
  have a1 : 2 * (m * 2 ^ 54 / n) * n = 2 * (n * (m * 2 ^ 54 / n)) := by rw [Nat.mul_assoc, Nat.mul_comm n]
  have a2 : (2 * (m * 2 ^ 54 / n) + 2) * n = 2 * (n * (m * 2 ^ 54 / n)) + 2 * n := by rw [Nat.add_mul, a1]
  rw [a1, a2]
  unfold q1
  by_cases h0 : m * 2 ^ 54 % n = 0
  · left
    rw [if_pos h0]
    exact ⟨by omega, by omega⟩
  · right
    rw [if_neg h0]
    exact ⟨by omega, by omega, rfl⟩

theorem sg_sub (s : Bool) (a b : Nat) : sg s a - sg s b = if s then -((a : Int) - b) else (a : Int) - b := by
  unfold sg
  cases s
  · rfl
  · simp only [if_true]; omega

theorem fd_lt (e z : Int) : fd e z < 18446744073709551616 ∧ fd e z % 9223372036854775808 ≤ 9218868437227405312 := nearest_lt _ _ _

theorem quo_fin {sx sy : Bool} {f : Nat} {A : Int} (h1 : f < 18446744073709551616) (h2 : f % 9223372036854775808 ≤ 9218868437227405312) (h : FloatKind.f64.format.order f 0 = some (sgnO (if sx then -A else A))) :
    FloatKind.f64.format.order (if sy then negW f else f) 0 = some (sgnO (if (sx ^^ sy) then -A else A)) := by
  cases sy
  · rw [if_neg Bool.false_ne_true, Bool.xor_false]
    exact h
  · rw [if_pos rfl, Bool.xor_true]
    have := order_negW h1 h2 h
    rw [sgnO_swap] at this
    rw [this]
    cases sx
    · rw [if_neg Bool.false_ne_true, Bool.not_false, if_pos rfl]
    · rw [if_pos rfl, Int.neg_neg, Bool.not_true, if_neg Bool.false_ne_true]

theorem fma_num {a b c : Nat} {s t r : Bool} {m n k : Nat} {i j l : Int} (h1 : double.read a = .number s m i) (h2 : double.read b = .number t n j) (h3 : double.read c = .number r k l) :
    double.fma a b c = (Datum.sum (.number (s ^^ t) (m * n) (i + j)) (.number r k l)).map double.write := by
  unfold Format.fma
  rw [h1, h2, h3]; rfl

/-- The remainder in the middle of the range. -/
theorem quo_rest {x y : Nat} {sx sy : Bool} {mx my : Nat} {ex ey : Int} (rx : double.read x = .number sx mx ex) (ry : double.read y = .number sy my ey) (x1 : 4503599627370496 ≤ mx) (x2 : mx < 9007199254740992) (y1 : 4503599627370496 ≤ my) (y2 : my < 9007199254740992) (x3 : -952 ≤ ex) (x4 : ex ≤ 848) (he1 : -1022 ≤ ex - ey - 55) (he2 : ex - ey - 55 ≤ 940) :
    ∃ q, double.fma (negW (double.nearest (sx ^^ sy) (q1 mx my) (ex - ey - 55))) y x = some q ∧ FloatKind.f64.format.order (if sy then negW q else q) 0 = some (side (sx ^^ sy) (q1 mx my)) := by
  have hbl := q1_bl x1 x2 y1 y2
  have hn : q1 mx my ≠ 0 := by
    intro h
    rw [h] at hbl
    have : bl 0 = 0 := rfl
    omega
  obtain ⟨a1, a2, a3⟩ := sg_sign (s := (sx ^^ sy)) hn
  have hN0 : nearM (q1 mx my) ≠ 0 := (nearM_facts hn).1
  have hNb : bl (nearM (q1 mx my)) ≤ bl (q1 mx my) + 1 := (nearM_facts hn).2.2.2
  have habs := nearI_abs (sg (sx ^^ sy) (q1 mx my))
  rw [a2] at habs
  have hI : nearI (sg (sx ^^ sy) (q1 mx my)) = sg (sx ^^ sy) (nearM (q1 mx my)) := by
    unfold nearI
    rw [a1, a2]
  obtain ⟨b1, b2, b3⟩ := sg_sign (s := (sx ^^ sy)) hN0
  have hfd := nearest_fd (s := (sx ^^ sy)) (ex - ey - 55) hn
  have hnf := nearI_fd (e := ex - ey - 55) (z := sg (sx ^^ sy) (q1 mx my)) a3 he1 (by rw [a2]; omega)
  rw [hI] at hnf
  rw [hfd, ← hnf]
  have hrep : Rep (sg (sx ^^ sy) (nearM (q1 mx my))) := by rw [← hI]; exact nearI_rep _
  obtain ⟨t, m, p, h1, h2, h3, h4⟩ := read_fd (e := ex - ey - 55) (z := sg (sx ^^ sy) (nearM (q1 mx my))) ⟨he1, by rw [b2]; omega⟩ hrep
  have ht : t = (sx ^^ sy) := by rw [h4 b3, b1]
  have hlt : fd (ex - ey - 55) (sg (sx ^^ sy) (nearM (q1 mx my))) < 18446744073709551616 := (fd_lt _ _).1
  have hM1 : Means (ex - 55) (-sg (sx ^^ sy) (nearM (q1 mx my)) * sg sy my) ((!t) ^^ sy) (m * my) (p + ey) := by
    have := mul_means h2.opp (show Means ey (sg sy my) sy my ey from fun c _ _ => (sg_mul _ _ _).symm)
    rwa [show ex - ey - 55 + ey = ex - 55 by omega] at this
  have hM2 : Means (ex - 55) (sg sx mx * ((2 ^ 55 : Nat) : Int)) sx mx ex := means_low (show Means ex (sg sx mx) sx mx ex from fun c _ _ => (sg_mul _ _ _).symm) 55
  have htot : -sg (sx ^^ sy) (nearM (q1 mx my)) * sg sy my + sg sx mx * ((2 ^ 55 : Nat) : Int) = if sx then -(((mx * 2 ^ 55 : Nat) : Int) - ((nearM (q1 mx my) * my : Nat) : Int)) else ((mx * 2 ^ 55 : Nat) : Int) - ((nearM (q1 mx my) * my : Nat) : Int) := by
    rw [Int.neg_mul, ← sg_mul2, sg_mul, ← sg_sub]
    have : ((sx ^^ sy) ^^ sy) = sx := by cases sx <;> cases sy <;> rfl
    rw [this]
    omega
  have hsz : (-sg (sx ^^ sy) (nearM (q1 mx my)) * sg sy my + sg sx mx * ((2 ^ 55 : Nat) : Int)).natAbs < 2 ^ 111 := by
    rw [htot]
    have u1 : mx * 2 ^ 55 < 2 ^ 110 := by
      have : mx * 2 ^ 55 < 2 ^ 53 * 2 ^ 55 := Nat.mul_lt_mul_of_pos_right (by rw [p53]; exact x2) (Nat.two_pow_pos _)
      rw [← Nat.pow_add] at this
      exact Nat.lt_of_lt_of_le this (pow_mono (by omega))
    have u2 : nearM (q1 mx my) * my < 2 ^ 110 := by
      have v1 : nearM (q1 mx my) < 2 ^ 57 := Nat.lt_of_lt_of_le (bl_bounds (Nat.pos_of_ne_zero hN0)).2.1 (pow_mono (by omega))
      have : nearM (q1 mx my) * my < 2 ^ 57 * 2 ^ 53 := Nat.mul_lt_mul'' v1 (by rw [p53]; exact y2)
      rwa [← Nat.pow_add] at this
    have u3 : (2 : Nat) ^ 111 = 2 * 2 ^ 110 := by rw [Nat.pow_succ 2 110, Nat.mul_comm]
    generalize (2 : Nat) ^ 110 = g at *
    generalize mx * 2 ^ 55 = a at *
    generalize nearM (q1 mx my) * my = b at *
    split <;> omega
  have hbt := bl_le hsz
  have hF : Fits (ex - 55) (-sg (sx ^^ sy) (nearM (q1 mx my)) * sg sy my + sg sx mx * ((2 ^ 55 : Nat) : Int)) := ⟨by omega, by omega⟩
  have hsum := sum_means hM1 hM2 hF (by
    intro _
    rw [ht]
    cases sx <;> cases sy <;> rfl)
  have hord : FloatKind.f64.format.order _ 0 = some (sgnO _) := ord_fd hF (by omega)
  have hq2 := fd_lt (ex - 55) (-sg (sx ^^ sy) (nearM (q1 mx my)) * sg sy my + sg sx mx * ((2 ^ 55 : Nat) : Int))
  clear hF hbt hsz
  generalize -sg (sx ^^ sy) (nearM (q1 mx my)) * sg sy my + sg sx mx * ((2 ^ 55 : Nat) : Int) = T at *
  refine ⟨fd (ex - 55) T, ?_, ?_⟩
  · have hr := read_negW hlt
    rw [h1] at hr
    rw [fma_num hr ry rx]
    exact hsum
  · have hside := near_side (sg (sx ^^ sy) (q1 mx my))
    rw [a1, a2, hI, sg_sub] at hside
    rw [← hside]
    obtain ⟨s1, s2⟩ := quo_sign x1 x2 y1 y2
    refine quo_fin hq2.1 hq2.2 ?_
    rw [hord, htot]
    congr 1
    apply sgnO_sg
    · omega
    · omega
end Go.Proofs.YtonhpkigoplmaaaGreatDoor
namespace Go.Proofs.YtonhpkigoplmaaaGreatDoor
open Go.RowKit Go.Extern Ieee

theorem markN_ne {s : Bool} {q : Nat} {e : Int} {b : Bool} (h : 2 * q + (if b then 0 else 1) ≠ 0) : markN s q e b = (s, 2 * q + (if b then 0 else 1), e - 1) := by
  unfold markN
  rw [decide_eq_true h, Bool.and_true]

theorem ite_decide (p : Prop) [Decidable p] : (if (decide p) = true then (0 : Nat) else 1) = if p then 0 else 1 := by
  by_cases h : p
  · rw [decide_eq_true h, if_pos rfl, if_pos h]
  · rw [decide_eq_false h, if_neg Bool.false_ne_true, if_neg h]

/-- The document's quotient is the same number, marked farther behind. -/
theorem quoN_mark {sx sy : Bool} {mx my : Nat} {ex ey : Int} (x1 : 4503599627370496 ≤ mx) (x2 : mx < 9007199254740992) (y1 : 4503599627370496 ≤ my) (y2 : my < 9007199254740992) :
    ∃ N, quoN (sx, mx, ex) (sy, my, ey) = ((sx ^^ sy), N, ex - ey - 55 - 59) ∧ MarkOf (mx * 2 ^ 54 / my) (mx * 2 ^ 54 % my = 0) 1 (q1 mx my) ∧ MarkOf (mx * 2 ^ 54 / my) (mx * 2 ^ 54 % my = 0) 60 N := by
  have h1 := quo_mark (m := mx * 2 ^ 54) (n := my) (k := 0) (by omega) rfl
  have h2 := quo_mark (m := mx * 2 ^ 54) (n := my) (k := 59) (by omega) rfl
  rw [Nat.pow_zero, Nat.mul_one] at h1
  rw [Nat.mul_assoc, ← Nat.pow_add] at h2
  obtain ⟨c1, c2⟩ := q1_bounds x1 x2 y1 y2
  have hne := h2.ne (by omega)
  refine ⟨_, ?_, h1, h2⟩
  unfold quoN
  simp only
  rw [bl53 y1 y2]
  have hne' : 2 * (mx * 2 ^ (60 + 53) / my) + (if (decide (mx * 2 ^ (60 + 53) % my = 0)) = true then 0 else 1) ≠ 0 := by
    rw [ite_decide]; exact hne
  rw [markN_ne hne', ite_decide]
  congr 2
  omega

theorem quo_plain {x y : Nat} {p q : Bool × Nat × Int} (hx : x < 18446744073709551616) (hy : y < 18446744073709551616) (px : plainN x = some p) (py : plainN y = some q) (hq0 : q.2.1 ≠ 0) :
    ∃ d u, Ends (quoN p q) d u ∧ Gives 94 #[.float .f64 x, .float .f64 y] d u := by
  by_cases hp0 : p.2.1 = 0
  · have ho := plain_zero_order hx px hp0
    refine ⟨0, 0, ends_zero ?_, quotientF_zero x y ho⟩
    unfold quoN markN
    simp only
    rw [hp0, Nat.zero_mul, Nat.zero_div, Nat.zero_mod]; rfl
  · obtain ⟨sx, mx, ex⟩ := p
    obtain ⟨sy, my, ey⟩ := q
    obtain ⟨rx, ox, x1, x2, x3, x4⟩ := plain_parts hx px hp0
    obtain ⟨ry, oy, y1, y2, y3, y4⟩ := plain_parts hy py hq0
    simp only at *
    obtain ⟨N, hN, k1, k2⟩ := quoN_mark (sx := sx) (sy := sy) (ex := ex) (ey := ey) x1 x2 y1 y2
    have hc : 4503599627370496 ≤ mx * 2 ^ 54 / my := by have := (q1_bounds x1 x2 y1 y2).1; omega
    have hn : q1 mx my ≠ 0 := k1.ne hc
    have hb := q1_bl x1 x2 y1 y2
    rw [hN]
    suffices h : ∃ d u, Ends ((sx ^^ sy), q1 mx my, ex - ey - 55) d u ∧ Gives 94 #[.float .f64 x, .float .f64 y] d u by
      obtain ⟨d, u, hE, hG⟩ := h
      exact ⟨d, u, k1.ends k2 hc (by omega) hE, hG⟩
    have hdiv := div_plain rx ry x1 x2 y1 y2
    have hrest := quo_rest rx ry x1 x2 y1 y2 x3 x4
    have hlost := quotientF_lost x y sx sy
    have hmain := quotientF_main x y sx sy
    obtain ⟨R, hR, hR2, hmid, htin, hhug⟩ := nearest_any (sx ^^ sy) (ex - ey - 55) hn
    rw [hR] at hdiv hrest
    have rb := rung_bounds (ex - ey - 55) hn
    have hup : -1021 ≤ ex - ey - 55 + bl (q1 mx my) → ex - ey - 55 + bl (q1 mx my) ≤ 1023 → rung (q1 mx my) (ex - ey - 55) ≤ R ∧ (R : Int) ≤ rung (q1 mx my) (ex - ey - 55) + 1 := by
      intro h1 h2
      have := hmid h1 h2
      split at this <;> omega
    have hneg : double.read (negW (wd (sx ^^ sy) R)) = (double.read (wd (sx ^^ sy) R)).opposite := read_negW (wd_lt (by omega))
    have hany : R < 9218868437227405312 → ∃ q o, double.fma (negW (wd (sx ^^ sy) R)) y x = some q ∧ FloatKind.f64.format.order (if sy then negW q else q) 0 = some o := by
      intro hlt
      obtain ⟨m', i', r1, _, _⟩ := read_vr (s := (sx ^^ sy)) (r := R) hlt
      rw [r1] at hneg
      obtain ⟨q, o, q1, q2⟩ := sum_write2 ((!(sx ^^ sy)) ^^ sy) sx (m' * my) mx (i' + ey) ex sy
      exact ⟨q, o, (fma_num hneg ry rx).trans q1, q2⟩
    by_cases hl : R < 103582791429521408
    · exact ⟨_, _, ends_tiny _ hn (by omega) (FR_tiny _ (by omega) (by omega)) (FR_tiny _ (by omega) (by omega)), hlost _ R ox oy hdiv hl⟩
    · by_cases he1 : ex - ey - 55 < -1022
      · obtain ⟨q, o, q1, q2⟩ := hany (by omega)
        obtain ⟨d, u, hd, hu, hG⟩ := around_tiny (sx ^^ sy) R _ o (by omega) (by omega) q2
        exact ⟨d, u, ends_tiny _ hn (by omega) hd hu, hmain _ R q d u ox oy hdiv hl hR2 q1 hG⟩
      · by_cases he2 : 940 < ex - ey - 55
        · by_cases hinf : R = 9218868437227405312
          · subst hinf
            rw [read_wd_inf] at hneg
            have hq : double.fma (negW (wd (sx ^^ sy) 9218868437227405312)) y x = some (wd ((!(sx ^^ sy)) ^^ sy) 9218868437227405312) := by
              unfold Format.fma
              rw [hneg, ry, rx]
              simp only [Datum.opposite, Datum.product]
              rw [if_neg (show ¬ my = 0 by omega)]
              cases sx <;> cases sy <;> rfl
            have ho : FloatKind.f64.format.order (if sy then negW (wd ((!(sx ^^ sy)) ^^ sy) 9218868437227405312) else wd ((!(sx ^^ sy)) ^^ sy) 9218868437227405312) 0 = some (if (sx ^^ sy) then .gt else .lt) := by
              rw [negW_wd (by omega)]
              cases sx <;> cases sy <;> rfl
            obtain ⟨d, u, hd, hu, hG⟩ := around_huge (sx ^^ sy) 9218868437227405312 _ _ (by omega) (by omega) ho (fun _ => rfl)
            exact ⟨d, u, ends_huge _ hn (by omega) hd hu, hmain _ _ _ d u ox oy hdiv hl hR2 hq hG⟩
          · obtain ⟨q, o, q1, q2⟩ := hany (by omega)
            obtain ⟨d, u, hd, hu, hG⟩ := around_huge (sx ^^ sy) R _ o (by omega) (by omega) q2 (fun h => absurd h hinf)
            exact ⟨d, u, ends_huge _ hn (by omega) hd hu, hmain _ R q d u ox oy hdiv hl hR2 q1 hG⟩
        · obtain ⟨q, q1', q2⟩ := hrest (by omega) (by omega)
          have hA : Gives 141 #[.float .f64 (double.nearest (sx ^^ sy) (q1 mx my) (ex - ey - 55)), .float .f64 (if sy then negW q else q)] _ _ := fun w => around_round (sx ^^ sy) (q1 mx my) (ex - ey - 55) _ w hn (by omega) (by omega) q2
          rw [hR] at hA
          have e1 := endR_bounds (sx ^^ sy) (n := q1 mx my) (ex - ey - 55) (-1)
          have e2 := endR_bounds (sx ^^ sy) (n := q1 mx my) (ex - ey - 55) 1
          exact ⟨_, _, ⟨FR_end _ (-1) hn (by omega) (by omega), FR_end _ 1 hn (by omega) (by omega)⟩, hmain _ R q _ _ ox oy hdiv hl hR2 q1' hA⟩
end Go.Proofs.YtonhpkigoplmaaaGreatDoor
namespace Go.Proofs.YtonhpkigoplmaaaGreatDoor
open Go.RowKit Go.Extern Ieee

/-- The whole root. -/
def isq (n : Nat) : Nat := Datum.rootFrom n (n.log2 / 2 + 1) 0

/-- By how much a number is shifted ahead of its root. -/
def rk (k : Nat) (e : Int) : Nat := if (e - k) % 2 = 0 then k else k + 1

/-- The root to 55 bits and a mark. -/
def r1 (m : Nat) (e : Int) : Nat := 2 * isq (m * 2 ^ rk 56 e) + if isq (m * 2 ^ rk 56 e) * isq (m * 2 ^ rk 56 e) = m * 2 ^ rk 56 e then 0 else 1

end Go.Proofs.YtonhpkigoplmaaaGreatDoor
namespace Go.Proofs.YtonhpkigoplmaaaGreatDoor
open Go.RowKit Go.Extern Ieee

end Go.Proofs.YtonhpkigoplmaaaGreatDoor
namespace Go.Proofs.YtonhpkigoplmaaaGreatDoor
open Go.RowKit

end Go.Proofs.YtonhpkigoplmaaaGreatDoor
namespace Go.Proofs.YtonhpkigoplmaaaGreatDoor
open Go.RowKit

end Go.Proofs.YtonhpkigoplmaaaGreatDoor
namespace Go.Proofs.YtonhpkigoplmaaaGreatDoor
open Go.RowKit

end Go.Proofs.YtonhpkigoplmaaaGreatDoor
namespace Go.Proofs.YtonhpkigoplmaaaGreatDoor
open Go.RowKit

end Go.Proofs.YtonhpkigoplmaaaGreatDoor
namespace Go.Proofs.YtonhpkigoplmaaaGreatDoor
open Go.RowKit

end Go.Proofs.YtonhpkigoplmaaaGreatDoor
namespace Go.Proofs.YtonhpkigoplmaaaGreatDoor
open Go.RowKit

end Go.Proofs.YtonhpkigoplmaaaGreatDoor
namespace Go.Proofs.YtonhpkigoplmaaaGreatDoor
open Go.RowKit

end Go.Proofs.YtonhpkigoplmaaaGreatDoor
namespace Go.Proofs.YtonhpkigoplmaaaGreatDoor
open Go.RowKit

theorem blk_store6 {W : World} {g : Nat} {a b c d e f a' b' c' d' e' f' : Value} {t : TypeId} (h : W.heap[g]? = some (.cells #[a', b', c', d', e', f'] t (0, 0))) :
    ((((((W.setCell ⟨g, 0, none⟩ a).setCell ⟨g, 1, none⟩ b).setCell ⟨g, 2, none⟩ c).setCell ⟨g, 3, none⟩ d).setCell ⟨g, 4, none⟩ e).setCell ⟨g, 5, none⟩ f).heap[g]? = some (.cells #[a, b, c, d, e, f] t (0, 0)) := by
  simp [World.setCell, Array.getElem?_modify, h]

theorem blk6 {W : World} {g : Nat} {a b c d e f : Value} {t : TypeId} (h : W.heap[g]? = some (.cells #[a, b, c, d, e, f] t (0, 0))) :
    W.cell? ⟨g, 0, none⟩ = some a ∧ W.cell? ⟨g, 1, none⟩ = some b ∧ W.cell? ⟨g, 2, none⟩ = some c ∧ W.cell? ⟨g, 3, none⟩ = some d ∧ W.cell? ⟨g, 4, none⟩ = some e ∧ W.cell? ⟨g, 5, none⟩ = some f ∧ W.frozen? ⟨g, 0, none⟩ = false ∧ W.frozen? ⟨g, 1, none⟩ = false ∧ W.frozen? ⟨g, 2, none⟩ = false ∧ W.frozen? ⟨g, 3, none⟩ = false ∧ W.frozen? ⟨g, 4, none⟩ = false ∧ W.frozen? ⟨g, 5, none⟩ = false :=
  ⟨by simp [World.cell?, h], by simp [World.cell?, h], by simp [World.cell?, h], by simp [World.cell?, h], by simp [World.cell?, h], by simp [World.cell?, h], by simp [World.frozen?, h], by simp [World.frozen?, h], by simp [World.frozen?, h], by simp [World.frozen?, h], by simp [World.frozen?, h], by simp [World.frozen?, h]⟩

/-- A plain float's number; 0 for what is none. -/
def plT (b : Nat) : Bool × Nat × Int := (plainN b).getD (false, 0, 0)

/-- A value of type Ival: two numbers. -/
def IvV (w : World) (v : Value) (x y : Bool × Nat × Int) : Prop :=
  ∃ ao la ca bo lb cb, v = .agg #[.bool x.1, .slice ao la ca, .int .i64 x.2.2, .bool y.1, .slice bo lb cb, .int .i64 y.2.2] ∧ la = (digits x.2.1).length ∧ lb = (digits y.2.1).length ∧ NatV w (.slice ao la ca) x.2.1 ∧ NatV w (.slice bo lb cb) y.2.1

theorem posW_lt {b : Nat} (h : b < 18446744073709551616) : posW b < 18446744073709551616 := by unfold posW; split <;> omega

theorem makeN_lt1 {lo hi : Nat} (h : lo < 18446744073709551616) : (makeN lo hi).1 < 18446744073709551616 := by
  unfold makeN
  split
  · show (0 : Nat) < _
    omega
  · split
    · show (0 : Nat) < _
      omega
    · exact posW_lt h

theorem makeN_lt2 {lo hi : Nat} (h : hi < 18446744073709551616) : (makeN lo hi).2.1 < 18446744073709551616 := by
  unfold makeN
  split
  · show (0 : Nat) < _
    omega
  · split
    · show (0 : Nat) < _
      omega
    · exact posW_lt h

set_option maxHeartbeats 1000000 in
set_option maxRecDepth 100000 in
theorem refMade_any (lo hi : Nat) (w : World) (h1 : lo < 18446744073709551616) (h2 : hi < 18446744073709551616) :
    Calls Tryz.prog 60 #[.agg #[.int .u64 (lo : Int), .int .u64 (hi : Int)]] w fun e w' => ∃ v, e = .returned v ∧ IvV w' v (plT (makeN lo hi).1) (plT (makeN lo hi).2.1) ∧ Below w.heap.size w w' := by
  have HM : Hid (∀ w, Calls Tryz.prog 27 #[.agg #[.int .u64 (lo : Int), .int .u64 (hi : Int)]] w fun e w' => e = .returned (.tuple #[.agg #[.int .u64 ((makeN lo hi).1 : Int), .int .u64 ((makeN lo hi).2.1 : Int)], .int .i64 ((makeN lo hi).2.2 : Int)]) ∧ Below w.heap.size w w') := fun w => refMake_any lo hi w h1 h2
  have hm1 : (makeN lo hi).1 < 18446744073709551616 := makeN_lt1 h1
  have hm2 : (makeN lo hi).2.1 < 18446744073709551616 := makeN_lt2 h2
  have HP1 : Hid (∀ w, Calls Tryz.prog 57 #[.int .u64 ((makeN lo hi).1 : Int)] w fun ev w' => ∃ x ok, ev = .returned (.tuple #[x, .bool ok]) ∧ NumV w' x (plT (makeN lo hi).1).1 (plT (makeN lo hi).1).2.1 (plT (makeN lo hi).1).2.2 ∧ Below w.heap.size w w') := fun w => (plain_any _ w hm1).mono (fun ev w' h => by obtain ⟨x, h1, h2, h3⟩ := h; exact ⟨x, _, h1, h2, h3⟩)
  have HP2 : Hid (∀ w, Calls Tryz.prog 57 #[.int .u64 ((makeN lo hi).2.1 : Int)] w fun ev w' => ∃ x ok, ev = .returned (.tuple #[x, .bool ok]) ∧ NumV w' x (plT (makeN lo hi).2.1).1 (plT (makeN lo hi).2.1).2.1 (plT (makeN lo hi).2.1).2.2 ∧ Below w.heap.size w w') := fun w => (plain_any _ w hm2).mono (fun ev w' h => by obtain ⟨x, h1, h2, h3⟩ := h; exact ⟨x, _, h1, h2, h3⟩)
  clear h1 h2 hm1 hm2
  go_enter Tryz.func60, Tryz.ntmps60
  go_wp2_with fail
  have B1 := blk_new (w.alloc (Obj.cells #[.int .u64 (lo : Int), .int .u64 (hi : Int)] 28)) (Obj.cells #[.bool false, .slice none 0 0, .int .i64 0, .bool false, .slice none 0 0, .int .i64 0] 98)
  have hW : Below w.heap.size w ((w.alloc (Obj.cells #[.int .u64 (lo : Int), .int .u64 (hi : Int)] 28)).alloc (Obj.cells #[.bool false, .slice none 0 0, .int .i64 0, .bool false, .slice none 0 0, .int .i64 0] 98)) := ((Below.refl _ _).alloc (Nat.le_refl _) _).alloc (by simp) _
  simp only [World.size_alloc] at B1
  generalize ((w.alloc (Obj.cells #[.int .u64 (lo : Int), .int .u64 (hi : Int)] 28)).alloc (Obj.cells #[.bool false, .slice none 0 0, .int .i64 0, .bool false, .slice none 0 0, .int .i64 0] 98)) = W2 at *
  refine Calls.mono (HM.out _) ?_
  rintro ev w1 ⟨rfl, hb1⟩
  have hW1 : Below w.heap.size w w1 := hW.trans (hb1.mono hW.size)
  have C1 := blk_below B1 hb1
  clear hb1 hW B1
  have C0 := blk_new w1 (Obj.cells #[.int .u64 ((makeN lo hi).1 : Int), .int .u64 ((makeN lo hi).2.1 : Int)] 28)
  have C1' := blk_old C1 (Obj.cells #[.int .u64 ((makeN lo hi).1 : Int), .int .u64 ((makeN lo hi).2.1 : Int)] 28)
  have hW1' := hW1.alloc hW1.size (Obj.cells #[.int .u64 ((makeN lo hi).1 : Int), .int .u64 ((makeN lo hi).2.1 : Int)] 28)
  go_wp2_with fail
  generalize (w1.alloc (Obj.cells #[.int .u64 ((makeN lo hi).1 : Int), .int .u64 ((makeN lo hi).2.1 : Int)] 28)) = W3 at *
  refine Calls.mono (HP1.out _) ?_
  rintro ev w2 ⟨x, ok1, rfl, ⟨ao, la, ca, rfl, hla, hna⟩, hb2⟩
  have HLA : Hid (la = (digits (plT (makeN lo hi).1).2.1).length) := hla
  have hW2 : Below w.heap.size w w2 := hW1'.trans (hb2.mono hW1'.size)
  have D0 := blk_below C0 hb2
  have D1 := blk_below C1' hb2
  obtain ⟨m0, m1, -, -⟩ := blk2 D0
  have hlt := lt_of_cell m1
  have E1 := blk_old D1 (Obj.cells #[.bool (plT (makeN lo hi).1).1, .slice ao la ca, .int .i64 (plT (makeN lo hi).1).2.2] 92)
  have E2 := blk_new w2 (Obj.cells #[.bool (plT (makeN lo hi).1).1, .slice ao la ca, .int .i64 (plT (makeN lo hi).1).2.2] 92)
  have hW3 := hW2.alloc hW2.size (Obj.cells #[.bool (plT (makeN lo hi).1).1, .slice ao la ca, .int .i64 (plT (makeN lo hi).1).2.2] 92)
  have hna3 := hna.below ((Below.refl _ w2).alloc (Nat.le_refl _) (Obj.cells #[.bool (plT (makeN lo hi).1).1, .slice ao la ca, .int .i64 (plT (makeN lo hi).1).2.2] 92)) (Nat.le_refl _)
  clear hb2 hW1' C0 C1' C1 hW1 m0 hla D1
  go_wp2_with fail
  clear hlt m1 D0 hW2 hna
  generalize (w2.alloc (Obj.cells #[.bool (plT (makeN lo hi).1).1, .slice ao la ca, .int .i64 (plT (makeN lo hi).1).2.2] 92)) = W4 at *
  refine Calls.mono (HP2.out _) ?_
  rintro ev w5 ⟨x, ok2, rfl, ⟨bo, lb, cb, rfl, hlb, hnb⟩, hb5⟩
  have HLB : Hid (lb = (digits (plT (makeN lo hi).2.1).2.1).length) := hlb
  have hW5 : Below w.heap.size w w5 := hW3.trans (hb5.mono hW3.size)
  have F1 := blk_below E1 hb5
  have F2 := blk_below E2 hb5
  have hna5 := hna3.below hb5 (Nat.le_refl _)
  obtain ⟨m0, m1, m2, -, -, -⟩ := blk3 F2
  have hlt := lt_of_cell m0
  have hlt2 := lt_of_row F1
  have S1 := blk_store6 (a := .bool (plT (makeN lo hi).1).1) (b := .slice ao la ca) (c := .int .i64 (plT (makeN lo hi).1).2.2) (d := .bool (plT (makeN lo hi).2.1).1) (e := .slice bo lb cb) (f := .int .i64 (plT (makeN lo hi).2.1).2.2) F1
  obtain ⟨q0, q1, q2, q3, q4, q5, -, -, -, -, -, -⟩ := blk6 (blk_old S1 (Obj.cells #[.bool (plT (makeN lo hi).2.1).1, .slice bo lb cb, .int .i64 (plT (makeN lo hi).2.1).2.2] 92))
  obtain ⟨k0, k1, k2, k3, k4, k5, f0, f1, f2, f3, f4, f5⟩ := blk6 F1
  have b0 : BoxT w5 (w.heap.size + 1) 98 := BoxT.of F1
  have K := ((((((Keeps.refl w5).set (j := 0) (u := .bool (plT (makeN lo hi).1).1) b0 (by decide)).set (j := 1) (u := .slice ao la ca) b0.set (by decide)).set (j := 2) (u := .int .i64 (plT (makeN lo hi).1).2.2) b0.set.set (by decide)).set (j := 3) (u := .bool (plT (makeN lo hi).2.1).1) b0.set.set.set (by decide)).set (j := 4) (u := .slice bo lb cb) b0.set.set.set.set (by decide)).set (j := 5) (u := .int .i64 (plT (makeN lo hi).2.1).2.2) b0.set.set.set.set.set (by decide)
  have K2 := K.trans (Keeps.alloc ((((((w5.setCell ⟨w.heap.size + 1, 0, none⟩ (.bool (plT (makeN lo hi).1).1)).setCell ⟨w.heap.size + 1, 1, none⟩ (.slice ao la ca)).setCell ⟨w.heap.size + 1, 2, none⟩ (.int .i64 (plT (makeN lo hi).1).2.2)).setCell ⟨w.heap.size + 1, 3, none⟩ (.bool (plT (makeN lo hi).2.1).1)).setCell ⟨w.heap.size + 1, 4, none⟩ (.slice bo lb cb)).setCell ⟨w.heap.size + 1, 5, none⟩ (.int .i64 (plT (makeN lo hi).2.1).2.2)) (Obj.cells #[.bool (plT (makeN lo hi).2.1).1, .slice bo lb cb, .int .i64 (plT (makeN lo hi).2.1).2.2] 92))
  have HNA : Hid (NatV (((((((w5.setCell ⟨w.heap.size + 1, 0, none⟩ (.bool (plT (makeN lo hi).1).1)).setCell ⟨w.heap.size + 1, 1, none⟩ (.slice ao la ca)).setCell ⟨w.heap.size + 1, 2, none⟩ (.int .i64 (plT (makeN lo hi).1).2.2)).setCell ⟨w.heap.size + 1, 3, none⟩ (.bool (plT (makeN lo hi).2.1).1)).setCell ⟨w.heap.size + 1, 4, none⟩ (.slice bo lb cb)).setCell ⟨w.heap.size + 1, 5, none⟩ (.int .i64 (plT (makeN lo hi).2.1).2.2)).alloc (Obj.cells #[.bool (plT (makeN lo hi).2.1).1, .slice bo lb cb, .int .i64 (plT (makeN lo hi).2.1).2.2] 92)) (.slice ao la ca) (plT (makeN lo hi).1).2.1) := hna5.keeps K2
  have HNB : Hid (NatV (((((((w5.setCell ⟨w.heap.size + 1, 0, none⟩ (.bool (plT (makeN lo hi).1).1)).setCell ⟨w.heap.size + 1, 1, none⟩ (.slice ao la ca)).setCell ⟨w.heap.size + 1, 2, none⟩ (.int .i64 (plT (makeN lo hi).1).2.2)).setCell ⟨w.heap.size + 1, 3, none⟩ (.bool (plT (makeN lo hi).2.1).1)).setCell ⟨w.heap.size + 1, 4, none⟩ (.slice bo lb cb)).setCell ⟨w.heap.size + 1, 5, none⟩ (.int .i64 (plT (makeN lo hi).2.1).2.2)).alloc (Obj.cells #[.bool (plT (makeN lo hi).2.1).1, .slice bo lb cb, .int .i64 (plT (makeN lo hi).2.1).2.2] 92)) (.slice bo lb cb) (plT (makeN lo hi).2.1).2.1) := hnb.keeps K2
  have HW6 : Hid (Below w.heap.size w (((((((w5.setCell ⟨w.heap.size + 1, 0, none⟩ (.bool (plT (makeN lo hi).1).1)).setCell ⟨w.heap.size + 1, 1, none⟩ (.slice ao la ca)).setCell ⟨w.heap.size + 1, 2, none⟩ (.int .i64 (plT (makeN lo hi).1).2.2)).setCell ⟨w.heap.size + 1, 3, none⟩ (.bool (plT (makeN lo hi).2.1).1)).setCell ⟨w.heap.size + 1, 4, none⟩ (.slice bo lb cb)).setCell ⟨w.heap.size + 1, 5, none⟩ (.int .i64 (plT (makeN lo hi).2.1).2.2)).alloc (Obj.cells #[.bool (plT (makeN lo hi).2.1).1, .slice bo lb cb, .int .i64 (plT (makeN lo hi).2.1).2.2] 92))) := ((((((hW5.setCell (by simp) _).setCell (by simp) _).setCell (by simp) _).setCell (by simp) _).setCell (by simp) _).setCell (by simp) _).alloc (by have := hW5.size; simp; omega) _
  clear hb5 hW3 E1 E2 hna3 hlb F1 F2 hW5 hna5 hnb HP1 HP2 HM K K2 b0 S1
  go_wp2_with fail
  refine bodyPost_ret (v := .agg #[.bool (plT (makeN lo hi).1).1, .slice ao la ca, .int .i64 (plT (makeN lo hi).1).2.2, .bool (plT (makeN lo hi).2.1).1, .slice bo lb cb, .int .i64 (plT (makeN lo hi).2.1).2.2]) (by simp [results, Tryz.results60, go_sem, q0, q1, q2, q3, q4, q5]) rfl ?_
  exact ⟨_, rfl, ⟨_, _, _, _, _, _, rfl, HLA.out, HLB.out, HNA.out, HNB.out⟩, HW6.out⟩
end Go.Proofs.YtonhpkigoplmaaaGreatDoor
namespace Go.Proofs.YtonhpkigoplmaaaGreatDoor
open Go.RowKit

/-- Does an interval hold 0? -/
def holdsT (x y : Bool × Nat × Int) : Bool := decide (sgnI x.1 x.2.1 ≤ 0) && decide (0 ≤ sgnI y.1 y.2.1)

end Go.Proofs.YtonhpkigoplmaaaGreatDoor
namespace Go.Proofs.YtonhpkigoplmaaaGreatDoor
open Go.RowKit

def lessT (x y : Bool × Nat × Int) : Bool := lessN x.1 x.2.1 x.2.2 y.1 y.2.1 y.2.2

end Go.Proofs.YtonhpkigoplmaaaGreatDoor
namespace Go.Proofs.YtonhpkigoplmaaaGreatDoor
open Go.RowKit

end Go.Proofs.YtonhpkigoplmaaaGreatDoor
namespace Go.Proofs.YtonhpkigoplmaaaGreatDoor
open Go.RowKit

end Go.Proofs.YtonhpkigoplmaaaGreatDoor
namespace Go.Proofs.YtonhpkigoplmaaaGreatDoor
open Go.RowKit Go.Extern.Stop Go.Stop Go.Extern

theorem c_typeOfOE (v : Value) (w : World) : (ReflectliteType.typeOf #[.iface 136 v]).run Tryz.prog w = .ok (.iface 216 (.agg #[.pointer (some ⟨11, 136, none⟩)])) w := by kernel_rfl
theorem c_assignableOE (w : World) : (ReflectliteType.relation "AssignableTo" ReflectliteType.assignableTo #[.agg #[.pointer (some ⟨11, 136, none⟩)], .iface 216 (.agg #[.pointer (some ⟨11, 136, none⟩)])]).run Tryz.prog w = .ok (.bool true) w := by kernel_rfl
theorem c_valueOfOE (e : Addr) (w : World) : (ReflectliteValue.unpack (.iface 136 (.pointer (some e)))).run Tryz.prog w
    = .ok (.agg #[.pointer (some ⟨11, 136, none⟩), .pointer (some ⟨w.heap.size, 0, none⟩), .int .u64 150]) (w.alloc (.cells #[.pointer (some e)] 136)) := by kernel_rfl
theorem c_elemTPP (w : World) : (Rtype.elem? 141).run Tryz.prog w = .ok (some 136) w := by kernel_rfl
theorem c_mkOE (p : Addr) (w : World) : (ReflectliteValue.mk 136 p ReflectliteValue.flagAddr).run Tryz.prog w = .ok (.agg #[.pointer (some ⟨11, 136, none⟩), .pointer (some p), .int .u64 406]) w := by kernel_rfl
theorem c_elemVPP (a p : Addr) (W : World) (ha : W.cell? a = some (.pointer (some p))) :
    (ReflectliteValue.method (ReflectliteValue.valueError "reflectlite.Value.Elem" 0) ReflectliteValue.elem #[.agg #[.pointer (some ⟨11, 141, none⟩), .pointer (some a), .int .u64 150]]).run Tryz.prog W
      = .ok (.agg #[.pointer (some ⟨11, 136, none⟩), .pointer (some p), .int .u64 406]) W := by
  rw [rlm]
  simp only [Sem.run_bind, c_partsPP, Result.andThen]
  simp [ReflectliteValue.elem, loadVar, isAgg, underlying, Tryz.underlying141, ha, Result.andThen, c_elemTPP, c_mkOE]
theorem c_partsOEa (a : Addr) (w : World) : (ReflectliteValue.parts (.agg #[.pointer (some ⟨11, 136, none⟩), .pointer (some a), .int .u64 406])).run Tryz.prog w = .ok (some (136, a, 406)) w := by kernel_rfl
theorem c_partsOE (a : Addr) (w : World) : (ReflectliteValue.parts (.agg #[.pointer (some ⟨11, 136, none⟩), .pointer (some a), .int .u64 150])).run Tryz.prog w = .ok (some (136, a, 150)) w := by kernel_rfl
theorem c_directOE (w : World) : (Rtype.directlyAssignable 136 136).run Tryz.prog w = .ok true w := by kernel_rfl
theorem c_setOE (ta b e : Addr) (old : Value) (W : World) (hb : W.cell? b = some (.pointer (some e))) (ht : W.cell? ta = some old) (hf : W.frozen? ta = false) :
    (ReflectliteValue.set #[.agg #[.pointer (some ⟨11, 136, none⟩), .pointer (some ta), .int .u64 406], .agg #[.pointer (some ⟨11, 136, none⟩), .pointer (some b), .int .u64 150]]).run Tryz.prog W
      = .ok (.tuple #[]) (W.setCell ta (.pointer (some e))) := by
  unfold ReflectliteValue.set
  delta ReflectliteValue.set.match_3
  simp only [Array.getLit, List.size_toArray, List.length_cons, List.length_nil, Nat.zero_add, Nat.reduceAdd, dite_true, List.getElem_toArray, List.getElem_cons_zero, List.getElem_cons_succ]
  simp only [Sem.run_bind, c_partsOEa, c_partsOE, Result.andThen]
  simp [ReflectliteValue.flagAddr, loadVar, isAgg, underlying, Tryz.underlying136, hb, Result.andThen, c_directOE, storeVar, Value.cells, storeCells, Addr.add]
  rw [run_store Tryz.prog W ta _ _ (by rfl)]
  simp [ht, hf]

set_option maxHeartbeats 4000000 in
/-- errors.As(x, &o), x an *OpError: true; o is x. -/
theorem as_hit (e t : Addr) (old : Value) (w : World) (hg : w.cell? ⟨9, 0, none⟩ = some (.iface 216 (.agg #[.pointer (some ⟨11, 70, none⟩)]))) (ht0 : w.cell? t = some old) (hf0 : w.frozen? t = false) :
    Calls Tryz.prog 96 #[.iface 136 (.pointer (some e)), .iface 141 (.pointer (some t))] w fun ev w' => ev = .returned (.bool true) ∧ ∃ w1, Below w.heap.size w w1 ∧ w' = w1.setCell t (.pointer (some e)) := by
  have h6 := @run_callFunc_extern Tryz.prog 146 _ (fun args => ReflectliteValue.unpack (args.getD 0 (.tuple #[]))) Tryz.func146 (by kernel_rfl) (by kernel_rfl) (by kernel_rfl) (by kernel_rfl)
  have h7 := @run_callFunc_extern Tryz.prog 147 _ (ReflectliteValue.methodAny (ReflectliteValue.valueError "reflectlite.Value.Type" 0) (fun t _ _ _ => ReflectliteType.toType t)) Tryz.func147 (by kernel_rfl) (by kernel_rfl) (by kernel_rfl) (by kernel_rfl)
  have h8 := @run_callFunc_extern Tryz.prog 148 _ (ReflectliteValue.method (ReflectliteValue.valueError "reflectlite.Value.IsNil" 0) ReflectliteValue.isNil) Tryz.func148 (by kernel_rfl) (by kernel_rfl) (by kernel_rfl) (by kernel_rfl)
  have h27 := @run_callFunc_extern Tryz.prog 197 _ (ReflectliteType.abiMethod fun t => do pure (.int .u8 (← Rtype.kind t))) Tryz.func197 (by kernel_rfl) (by kernel_rfl) (by kernel_rfl) (by kernel_rfl)
  have h37 := @run_callFunc_extern Tryz.prog 207 _ (ReflectliteType.method ReflectliteType.elem) Tryz.func207 (by kernel_rfl) (by kernel_rfl) (by kernel_rfl) (by kernel_rfl)
  have h38 := @run_callFunc_extern Tryz.prog 208 _ (ReflectliteType.relation "Implements" ReflectliteType.implements_) Tryz.func208 (by kernel_rfl) (by kernel_rfl) (by kernel_rfl) (by kernel_rfl)
  have h10 := @run_callFunc_extern Tryz.prog 150 _ ReflectliteType.typeOf Tryz.func150 (by kernel_rfl) (by kernel_rfl) (by kernel_rfl) (by kernel_rfl)
  have h35 := @run_callFunc_extern Tryz.prog 205 _ (ReflectliteType.relation "AssignableTo" ReflectliteType.assignableTo) Tryz.func205 (by kernel_rfl) (by kernel_rfl) (by kernel_rfl) (by kernel_rfl)
  have h11 := @run_callFunc_extern Tryz.prog 175 _ (ReflectliteValue.method (ReflectliteValue.valueError "reflectlite.Value.Elem" 0) ReflectliteValue.elem) Tryz.func175 (by kernel_rfl) (by kernel_rfl) (by kernel_rfl) (by kernel_rfl)
  have h12 := @run_callFunc_extern Tryz.prog 176 _ ReflectliteValue.set Tryz.func176 (by kernel_rfl) (by kernel_rfl) (by kernel_rfl) (by kernel_rfl)
  have tO := c_typeOfOE
  have mA := c_methodAssignableTo
  have a25 := c_assignableOE
  have v25 := c_valueOfOE
  have f6 := c_valueOfPP
  have f7 := c_typePP
  have mK := c_methodKind
  have mE := c_methodElem
  have mI := c_methodImplements
  have k27 := c_kindPP
  have k25 := c_kindPE
  have e27 := c_elemPP
  have i25 := c_implementsPE
  have n8 := c_isNilPP ⟨w.heap.size, 0, none⟩ t ((w.alloc (.cells #[.pointer (some t)] 141)).alloc (.cells #[.pointer (some ⟨11, 141, none⟩), .pointer (some ⟨w.heap.size, 0, none⟩), .int .u64 150] 186)) (by simp)
  have hlt := lt_of_cell hg
  have hg2 : ((w.alloc (.cells #[.pointer (some t)] 141)).alloc (.cells #[.pointer (some ⟨11, 141, none⟩), .pointer (some ⟨w.heap.size, 0, none⟩), .int .u64 150] 186)).cell? ⟨9, 0, none⟩ = some (.iface 216 (.agg #[.pointer (some ⟨11, 70, none⟩)])) := by
    rw [World.cell?_alloc_lt _ _ ⟨9, 0, none⟩ (by simp at hlt ⊢; omega), World.cell?_alloc_lt _ _ ⟨9, 0, none⟩ hlt]; exact hg
  have htl := lt_of_cell ht0
  have el := c_elemVPP ⟨w.heap.size, 0, none⟩ t (((w.alloc (.cells #[.pointer (some t)] 141)).alloc (.cells #[.pointer (some ⟨11, 141, none⟩), .pointer (some ⟨w.heap.size, 0, none⟩), .int .u64 150] 186)).alloc (.cells #[.pointer (some ⟨11, 141, none⟩), .pointer (some ⟨w.heap.size, 0, none⟩), .int .u64 150] 186)) (by rw [World.cell?_alloc_lt _ _ ⟨w.heap.size, 0, none⟩ (by simp; omega)]; simp)
  have st := c_setOE t ⟨w.heap.size + 1 + 1 + 1, 0, none⟩ e old ((((w.alloc (.cells #[.pointer (some t)] 141)).alloc (.cells #[.pointer (some ⟨11, 141, none⟩), .pointer (some ⟨w.heap.size, 0, none⟩), .int .u64 150] 186)).alloc (.cells #[.pointer (some ⟨11, 141, none⟩), .pointer (some ⟨w.heap.size, 0, none⟩), .int .u64 150] 186)).alloc (.cells #[.pointer (some e)] 136))
    (by rw [World.cell?_alloc_at _ _ _ _ (by simp)]; rfl)
    (by rw [World.cell?_alloc_lt _ _ t (by simp; omega), World.cell?_alloc_lt _ _ t (by simp; omega), World.cell?_alloc_lt _ _ t (by simp; omega), World.cell?_alloc_lt _ _ t htl]; exact ht0)
    (by rw [World.frozen?_alloc_old _ _ t (by simp; omega), World.frozen?_alloc_old _ _ t (by simp; omega), World.frozen?_alloc_old _ _ t (by simp; omega), World.frozen?_alloc_old _ _ t (Nat.ne_of_lt htl)]; exact hf0)
  go_enter Tryz.func96, Tryz.ntmps96
  go_wp2
  refine wp_loop_rounds 1 ?_
  rw [rounds_succ]
  go_wp2
  go_ret
  exact ⟨rfl, _, ((((Below.refl _ _).alloc (Nat.le_refl _) _).alloc (by simp) _).alloc (by simp; omega) _).alloc (by simp; omega) _, rfl⟩
end Go.Proofs.YtonhpkigoplmaaaGreatDoor
namespace Go.Proofs.YtonhpkigoplmaaaGreatDoor
open Go.RowKit Go.Extern.Stop Go.Stop Go.Extern

theorem c_methodUnwrap (p : Addr) (w : World) : (Go.method 363 136 (.pointer (some p)) "Unwrap").run Tryz.prog w = .ok (97, .pointer (some p)) w := by kernel_rfl
theorem c_noIsOE (v : Value) (xT : TypeId) (w : World) : (Instr.typeAssert (.iface 136 v) xT 226 true).run Tryz.prog w = .ok (.tuple #[.nilIface, .bool false]) w := run_typeAssert_lacksB Tryz.underlying226 (by kernel_rfl) (by kernel_rfl) v xT w
theorem c_unwrapOE (v : Value) (xT : TypeId) (w : World) : (Instr.typeAssert (.iface 136 v) xT 223 true).run Tryz.prog w = .ok (.tuple #[.iface 136 v, .bool true]) w := run_typeAssert_hasB Tryz.underlying223 (by kernel_rfl) v xT w

theorem unwrap_any (b : Nat) (s : ByteArray) (e : Value) (w : World) (h : w.heap[b]? = some (.cells #[.string s, e] 138 (0, 0))) : Calls Tryz.prog 97 #[.pointer (some ⟨b, 0, none⟩)] w fun ev w' => ev = .returned e ∧ w' = w := by
  have hc : w.cell? ⟨b, 1, none⟩ = some e := by simp [World.cell?, h]
  go_enter Tryz.func97, Tryz.ntmps97
  go_wp2
  go_ret
  exact ⟨rfl, rfl⟩

/-- errors.Is(x, y), x an *OpError that holds y. -/
theorem is_wrap_same (b : Nat) (s : ByteArray) (a : Addr) (w : World) (h : w.heap[b]? = some (.cells #[.string s, .iface 229 (.pointer (some a))] 138 (0, 0))) :
    Calls Tryz.prog 98 #[.iface 136 (.pointer (some ⟨b, 0, none⟩)), .iface 229 (.pointer (some a))] w fun e w' => e = .returned (.bool true) ∧ w' = w := by
  obtain ⟨i, hi, hcmp⟩ := Option.map_eq_some_iff.1 c_compES
  obtain ⟨j, hj, hjs⟩ := Option.map_eq_some_iff.1 c_sizeES
  have h8 := @run_callFunc_extern Tryz.prog 150 _ Extern.ReflectliteType.typeOf Tryz.func150 (by kernel_rfl) (by kernel_rfl) (by kernel_rfl) (by kernel_rfl)
  have h32 := @run_callFunc_extern Tryz.prog 206 _ (Extern.ReflectliteType.method cmpEntry) Tryz.func206 (by kernel_rfl) (by kernel_rfl) (by kernel_rfl) (by kernel_rfl)
  have tT := c_typeOfES
  have cT := c_comparable
  have mR := c_methodComparable
  have mU := c_methodUnwrap ⟨b, 0, none⟩
  have nI := c_noIsOE
  have uO := c_unwrapOE
  have hne := run_eql_iface_types (P := Tryz.prog) 136 229 (.pointer (some ⟨b, 0, none⟩)) (.pointer (some a)) Tryz.underlying70 (by decide)
  have heq := run_eql_iface_ptr_same (P := Tryz.prog) w a Tryz.underlying70 Tryz.underlying229 hi hcmp hj
  have HU : Hid (∀ w, w.heap[b]? = some (.cells #[.string s, .iface 229 (.pointer (some a))] 138 (0, 0)) → Calls Tryz.prog 97 #[.pointer (some ⟨b, 0, none⟩)] w fun ev w' => ev = .returned (.iface 229 (.pointer (some a))) ∧ w' = w) := fun w h => unwrap_any b s _ w h
  have H : Hid (w.heap[b]? = some (.cells #[.string s, .iface 229 (.pointer (some a))] 138 (0, 0))) := h
  clear h
  go_enter Tryz.func98, Tryz.ntmps98
  go_wp2
  refine wp_loop_rounds 2 ?_
  rw [rounds_succ]
  go_wp2_with fail
  refine Calls.mono (HU.out _ H.out) ?_
  rintro e w' ⟨rfl, rfl⟩
  go_wp2_with fail
  rw [rounds_succ]
  go_wp2
  go_ret
  exact ⟨rfl, rfl⟩

/-- errors.Is(x, y), x an *OpError that holds another one. -/
theorem is_wrap_other (b : Nat) (s : ByteArray) (a c : Addr) (ca cb : Array Value) (ta tb : TypeId) (w : World) (hac : a ≠ c) (ha : w.heap[a.block]? = some (.cells ca ta (0, 0))) (hb : w.heap[c.block]? = some (.cells cb tb (0, 0))) (h : w.heap[b]? = some (.cells #[.string s, .iface 229 (.pointer (some a))] 138 (0, 0))) :
    Calls Tryz.prog 98 #[.iface 136 (.pointer (some ⟨b, 0, none⟩)), .iface 229 (.pointer (some c))] w fun e w' => e = .returned (.bool false) ∧ w' = w := by
  obtain ⟨i, hi, hcmp⟩ := Option.map_eq_some_iff.1 c_compES
  obtain ⟨j, hj, hjs⟩ := Option.map_eq_some_iff.1 c_sizeES
  have h8 := @run_callFunc_extern Tryz.prog 150 _ Extern.ReflectliteType.typeOf Tryz.func150 (by kernel_rfl) (by kernel_rfl) (by kernel_rfl) (by kernel_rfl)
  have h32 := @run_callFunc_extern Tryz.prog 206 _ (Extern.ReflectliteType.method cmpEntry) Tryz.func206 (by kernel_rfl) (by kernel_rfl) (by kernel_rfl) (by kernel_rfl)
  have tT := c_typeOfES
  have cT := c_comparable
  have mR := c_methodComparable
  have mU := c_methodUnwrap ⟨b, 0, none⟩
  have nI := c_noIsOE
  have uO := c_unwrapOE
  have hne := run_eql_iface_types (P := Tryz.prog) 136 229 (.pointer (some ⟨b, 0, none⟩)) (.pointer (some c)) Tryz.underlying70 (by decide)
  have nE := c_noIsES
  have uE := c_noUnwrapES
  have vE := c_noUnwrapsES
  have heq := run_eql_iface_ptr_other (P := Tryz.prog) w Tryz.underlying70 Tryz.underlying229 hi hcmp hj (by rw [hjs]; decide) hac ha hb
  clear ha hb
  have HU : Hid (∀ w, w.heap[b]? = some (.cells #[.string s, .iface 229 (.pointer (some a))] 138 (0, 0)) → Calls Tryz.prog 97 #[.pointer (some ⟨b, 0, none⟩)] w fun ev w' => ev = .returned (.iface 229 (.pointer (some a))) ∧ w' = w) := fun w h => unwrap_any b s _ w h
  have H : Hid (w.heap[b]? = some (.cells #[.string s, .iface 229 (.pointer (some a))] 138 (0, 0))) := h
  clear h
  go_enter Tryz.func98, Tryz.ntmps98
  go_wp2
  refine wp_loop_rounds 2 ?_
  rw [rounds_succ]
  go_wp2_with fail
  refine Calls.mono (HU.out _ H.out) ?_
  rintro e w' ⟨rfl, rfl⟩
  go_wp2_with fail
  rw [rounds_succ]
  go_wp2
  go_ret
  exact ⟨rfl, rfl⟩
end Go.Proofs.YtonhpkigoplmaaaGreatDoor
namespace Go.Proofs.YtonhpkigoplmaaaGreatDoor
open Go.RowKit Go.Extern.Stop Go.Stop Go.Extern

set_option maxRecDepth 100000 in
set_option maxHeartbeats 4000000 in
theorem code_op (A : Nat → Addr) (w : World) (b i : Nat) (s : ByteArray) (hi : i < 9) (hS : Sents A w) (h : w.heap[b]? = some (.cells #[.string s, .iface 229 (.pointer (some (A i)))] 138 (0, 0))) :
    Calls Tryz.prog 49 #[.iface 136 (.pointer (some ⟨b, 0, none⟩))] w fun e w' => e = .returned (.tuple #[.int .i64 (i + 1 : Nat), .string s]) ∧ Below w.heap.size w w' := by
  obtain ⟨i', hi', hcmp⟩ := Option.map_eq_some_iff.1 c_compES
  obtain ⟨j', hj', hjs⟩ := Option.map_eq_some_iff.1 c_sizeES
  have hneq : ∀ w, (binOp .neq 70 (.iface 229 (.pointer (some (A i)))) (.iface 229 (.pointer (some (A i))))).run Tryz.prog w = .ok (.bool false) w := by
    intro w
    simp only [binOp]
    simp [Op.equal, Op.maxDepth, run_equalIn_iface_ptr_same w 9998 (A i) Tryz.underlying70 Tryz.underlying229 hi' hcmp hj']
  clear hi' hj' hcmp hjs
  go_enter Tryz.func49, Tryz.ntmps49
  go_wp2_with fail
  refine (as_hit _ _ (.pointer none) _ (hS.alloc _).ty (by simp) (by simp)).mono ?_
  rintro e w0 ⟨rfl, w1', hb0, rfl⟩
  have hbA : Below w.heap.size w (w1'.setCell ⟨w.heap.size, 0, none⟩ (.pointer (some ⟨b, 0, none⟩))) := (((Below.refl _ _).alloc (Nat.le_refl _) _).trans (hb0.mono (by simp))).setCell (by simp) _
  have k0 : (w1'.setCell ⟨w.heap.size, 0, none⟩ (.pointer (some ⟨b, 0, none⟩))).cell? ⟨w.heap.size, 0, none⟩ = some (.pointer (some ⟨b, 0, none⟩)) := by
    have := blk_below (blk_new w _) hb0
    simp [World.cell?, World.setCell, Array.getElem?_modify, this]
  have h2 : (w1'.setCell ⟨w.heap.size, 0, none⟩ (.pointer (some ⟨b, 0, none⟩))).heap[b]? = some (.cells #[.string s, .iface 229 (.pointer (some (A i)))] 138 (0, 0)) := by
    rw [hbA.block _ (lt_of_row h)]; exact h
  have hS1 := hS.below hbA (Nat.le_refl _)
  have hb := hbA
  clear hb0 hbA h
  generalize w1'.setCell ⟨w.heap.size, 0, none⟩ (.pointer (some ⟨b, 0, none⟩)) = w1 at *
  have k1 : w1.cell? ⟨b, 0, none⟩ = some (.string s) := by simp [World.cell?, h2]
  have k2 : w1.cell? ⟨b, 1, none⟩ = some (.iface 229 (.pointer (some (A i)))) := by simp [World.cell?, h2]
  go_wp2_with fail
  have H2 : Hid (w1.heap[b]? = some (.cells #[.string s, .iface 229 (.pointer (some (A i)))] 138 (0, 0))) := h2
  have HS1 : Hid (Sents A w1) := hS1
  have HB : Hid (Below w.heap.size w w1) := hb
  clear h2 hS1 hb hS
  go_region_held3 (fun W => W.cell? ⟨w.heap.size, 0, none⟩ = some (.pointer (some ⟨b, 0, none⟩)) ∧ W.cell? ⟨b, 1, none⟩ = some (.iface 229 (.pointer (some (A i))))) (first | (go_keep; done) | (refine ⟨?_, ?_⟩ <;> first | (go_keep; done) | assumption))
    (first | (go_at_call 97; refine (unwrap_any b s _ _ (show (w1.drew).heap[b]? = _ from H2.out)).mono ?_; rintro e w3 ⟨rfl, rfl⟩))
  have hS1 : Sents A w1.drew := HS1.out.below (Below.refl _ _).drew (Nat.le_refl _)
  have hb : Below w.heap.size w w1.drew := HB.out.drew
  have h2 : w1.drew.heap[b]? = some (.cells #[.string s, .iface 229 (.pointer (some (A i)))] 138 (0, 0)) := H2.out
  clear HS1 HB H2 k0 k1 k2 hneq
  generalize w1.drew = w1 at *
  have c0 : w1.cell? ⟨3, 0, none⟩ = some (.iface 229 (.pointer (some (A 0)))) := hS1.cell 0 (by omega)
  have c1 : w1.cell? ⟨4, 0, none⟩ = some (.iface 229 (.pointer (some (A 1)))) := hS1.cell 1 (by omega)
  have c2 : w1.cell? ⟨5, 0, none⟩ = some (.iface 229 (.pointer (some (A 2)))) := hS1.cell 2 (by omega)
  have c3 : w1.cell? ⟨1, 0, none⟩ = some (.iface 229 (.pointer (some (A 3)))) := hS1.cell 3 (by omega)
  have c4 : w1.cell? ⟨2, 0, none⟩ = some (.iface 229 (.pointer (some (A 4)))) := hS1.cell 4 (by omega)
  have c5 : w1.cell? ⟨0, 0, none⟩ = some (.iface 229 (.pointer (some (A 5)))) := hS1.cell 5 (by omega)
  have c6 : w1.cell? ⟨6, 0, none⟩ = some (.iface 229 (.pointer (some (A 6)))) := hS1.cell 6 (by omega)
  have c7 : w1.cell? ⟨7, 0, none⟩ = some (.iface 229 (.pointer (some (A 7)))) := hS1.cell 7 (by omega)
  have c8 : w1.cell? ⟨8, 0, none⟩ = some (.iface 229 (.pointer (some (A 8)))) := hS1.cell 8 (by omega)
  go_wp2_with fail
  have hS2 := hS1.alloc (Obj.cells #[Value.iface 229 (Value.pointer (some (A 0))), Value.iface 229 (Value.pointer (some (A 1))), Value.iface 229 (Value.pointer (some (A 2))), Value.iface 229 (Value.pointer (some (A 3))), Value.iface 229 (Value.pointer (some (A 4))), Value.iface 229 (Value.pointer (some (A 5))), Value.iface 229 (Value.pointer (some (A 6))), Value.iface 229 (Value.pointer (some (A 7))), Value.iface 229 (Value.pointer (some (A 8)))] 70)
  have hb2 := hb.alloc hb.size (Obj.cells #[Value.iface 229 (Value.pointer (some (A 0))), Value.iface 229 (Value.pointer (some (A 1))), Value.iface 229 (Value.pointer (some (A 2))), Value.iface 229 (Value.pointer (some (A 3))), Value.iface 229 (Value.pointer (some (A 4))), Value.iface 229 (Value.pointer (some (A 5))), Value.iface 229 (Value.pointer (some (A 6))), Value.iface 229 (Value.pointer (some (A 7))), Value.iface 229 (Value.pointer (some (A 8)))] 70)
  have hl : ∀ k, k < 9 → (w1.alloc (Obj.cells #[Value.iface 229 (Value.pointer (some (A 0))), Value.iface 229 (Value.pointer (some (A 1))), Value.iface 229 (Value.pointer (some (A 2))), Value.iface 229 (Value.pointer (some (A 3))), Value.iface 229 (Value.pointer (some (A 4))), Value.iface 229 (Value.pointer (some (A 5))), Value.iface 229 (Value.pointer (some (A 6))), Value.iface 229 (Value.pointer (some (A 7))), Value.iface 229 (Value.pointer (some (A 8)))] 70)).cell? ⟨w1.heap.size, k, none⟩ = some (.iface 229 (.pointer (some (A k)))) := by
    intro k hk
    rcases (show k = 0 ∨ k = 1 ∨ k = 2 ∨ k = 3 ∨ k = 4 ∨ k = 5 ∨ k = 6 ∨ k = 7 ∨ k = 8 by omega) with rfl | rfl | rfl | rfl | rfl | rfl | rfl | rfl | rfl <;> simp
  have H3 : Hid ((w1.alloc (Obj.cells #[Value.iface 229 (Value.pointer (some (A 0))), Value.iface 229 (Value.pointer (some (A 1))), Value.iface 229 (Value.pointer (some (A 2))), Value.iface 229 (Value.pointer (some (A 3))), Value.iface 229 (Value.pointer (some (A 4))), Value.iface 229 (Value.pointer (some (A 5))), Value.iface 229 (Value.pointer (some (A 6))), Value.iface 229 (Value.pointer (some (A 7))), Value.iface 229 (Value.pointer (some (A 8)))] 70)).heap[b]? = some (.cells #[.string s, .iface 229 (.pointer (some (A i)))] 138 (0, 0))) := by
    rw [Below.heap_alloc _ _ _ (lt_of_row h2)]; exact h2
  clear c0 c1 c2 c3 c4 c5 c6 c7 c8 hb hS1 h2
  generalize (w1.alloc (Obj.cells #[Value.iface 229 (Value.pointer (some (A 0))), Value.iface 229 (Value.pointer (some (A 1))), Value.iface 229 (Value.pointer (some (A 2))), Value.iface 229 (Value.pointer (some (A 3))), Value.iface 229 (Value.pointer (some (A 4))), Value.iface 229 (Value.pointer (some (A 5))), Value.iface 229 (Value.pointer (some (A 6))), Value.iface 229 (Value.pointer (some (A 7))), Value.iface 229 (Value.pointer (some (A 8)))] 70)) = W2 at *
  go_loop [38] (fun v => ∃ k : Nat, k ≤ i ∧ v = .int .i64 k) (fun v => 9 - (intOf v).toNat)
  case atStart => exact ⟨0, Nat.zero_le _, rfl⟩
  case round =>
    obtain ⟨k, hk, rfl⟩ := hrel
    have hck := hl k (by omega)
    have hk9 : k < 9 := by omega
    clear hl
    by_cases hki : k = i
    · subst hki
      go_wp2_with fail
      refine (is_wrap_same b s _ _ H3.out).mono ?_
      rintro e w' ⟨rfl, rfl⟩
      go_wp2_with fail
      go_ret2
      exact ⟨by go_num, hb2⟩
    · obtain ⟨ca, ta, hra⟩ := hS2.row i hi
      obtain ⟨cb, tb, hrb⟩ := hS2.row k hk9
      have hne : A i ≠ A k := fun h => hS2.other k i (by omega) hi h.symm
      go_wp2_with fail
      refine (is_wrap_other b s _ _ ca cb ta tb _ hne hra hrb H3.out).mono ?_
      rintro e w' ⟨rfl, rfl⟩
      go_wp2_with fail
      go_round
      case rel => exact ⟨k + 1, by omega, by go_num⟩
      case measure => simp [intOf]; omega
end Go.Proofs.YtonhpkigoplmaaaGreatDoor
namespace Go.Proofs.YtonhpkigoplmaaaGreatDoor
open Go.RowKit Go.Extern Ieee
attribute [local go_sem] run_store_float

/-- An error by its number and its operation's name: none, one of the nine, or one of them in an *OpError. -/
def ErrIs (A : Nat → Addr) (w : World) (v : Value) (k : Nat) (s : ByteArray) : Prop :=
  (v = .nilIface ∧ k = 0 ∧ s = ⟨#[]⟩) ∨ (∃ j, j < 9 ∧ v = .iface 229 (.pointer (some (A j))) ∧ k = j + 1 ∧ s = ⟨#[]⟩) ∨
    (∃ j, j < 9 ∧ ∃ b, w.heap[b]? = some (.cells #[.string s, .iface 229 (.pointer (some (A j)))] 138 (0, 0)) ∧ v = .iface 136 (.pointer (some ⟨b, 0, none⟩)) ∧ k = j + 1)
theorem code_any (A : Nat → Addr) (v : Value) (k : Nat) (s : ByteArray) (w : World) (hS : Sents A w) (h : ErrIs A w v k s) :
    Calls Tryz.prog 49 #[v] w fun e w' => e = .returned (.tuple #[.int .i64 (k : Int), .string s]) ∧ Below w.heap.size w w' := by
  rcases h with ⟨rfl, rfl, rfl⟩ | ⟨k, h, rfl, rfl, rfl⟩ | ⟨k, h, b, hr, rfl, rfl⟩
  ·
    refine Calls.mono (code_nil w) ?_
    rintro e w' ⟨rfl, rfl⟩
    exact ⟨rfl, Below.refl _ _⟩
  · exact code_sent A w k h hS
  · exact code_op A w b k s h hS hr

end Go.Proofs.YtonhpkigoplmaaaGreatDoor
