/-
  OpU, RefZ, OpC, EnclM, SolP, AddF, SqrtF, MeetF, MulG, Made, OpF, MulF, CorQ, OpD, KnowM, KnowQ, KnowR, PolyM, SolQ, RoundZ, RoundY, MidM, PieceM, LawA, LawB.
-/
import Derived.Test.YtonhpkigoplmaaaGreatDoorS09
import Derived.Deep.DeepCutAuto
import Derived.Test.YtonhpkigoplmaaaGreatDoorS06
import Derived.Test.YtonhpkigoplmaaaGreatDoorS04
namespace Go.Proofs.YtonhpkigoplmaaaGreatDoor
open Go.RowKit

end Go.Proofs.YtonhpkigoplmaaaGreatDoor
namespace Go.Proofs.YtonhpkigoplmaaaGreatDoor
open Go.RowKit

end Go.Proofs.YtonhpkigoplmaaaGreatDoor
namespace Go.Proofs.YtonhpkigoplmaaaGreatDoor
open Go.RowKit Go.Extern Ieee

/-- A number of few digits. -/
structure Sm (x : Bool × Nat × Int) : Prop where
  b : bl x.2.1 ≤ 10000
  l : -10000 ≤ x.2.2
  u : x.2.2 ≤ 10000

theorem Sm.len {x : Bool × Nat × Int} (h : Sm x) : (digits x.2.1).length ≤ 1000 := by have := len_of_bl x.2.1; have := h.b; omega
/-- What is known of a plain float's number. -/
structure Pl (x : Bool × Nat × Int) : Prop where
  n : x.2.1 < 9007199254740992
  l : -952 ≤ x.2.2
  u : x.2.2 ≤ 848

theorem pl_of {b : Nat} {x : Bool × Nat × Int} (h : plainN b = some x) : Pl x := by
  rcases plain_num h with h | ⟨h1, h2, h3, h4⟩
  · subst h; exact ⟨by decide, by decide, by decide⟩
  · exact ⟨h2, h3, h4⟩

theorem Pl.bits {x : Bool × Nat × Int} (h : Pl x) : bl x.2.1 ≤ 53 := bl_le (by rw [p53]; exact h.n)
theorem Pl.sm {x : Bool × Nat × Int} (h : Pl x) : Sm x := ⟨by have := h.bits; omega, by have := h.l; omega, by have := h.u; omega⟩
theorem Pl.neg {x : Bool × Nat × Int} (h : Pl x) : Pl (negT x) := ⟨h.n, h.l, h.u⟩

theorem bl_zero2 : bl 0 = 0 := bl_zero
theorem bl_mono2 {n m : Nat} (h : n ≤ m) : bl n ≤ bl m := by
  by_cases h0 : n = 0
  · subst h0; rw [bl_zero2]; exact Nat.zero_le _
  · exact bl_mono h0 h
theorem lt_bl (n : Nat) : n < 2 ^ bl n := by
  rcases Nat.eq_zero_or_pos n with h | h
  · subst h; exact Nat.two_pow_pos _
  · exact (bl_bounds h).2.1
theorem bl_shift2 (n k : Nat) : bl (n * 2 ^ k) ≤ bl n + k := bl_le (by rw [Nat.pow_add]; exact Nat.mul_lt_mul_of_pos_right (lt_bl n) (Nat.two_pow_pos k))
theorem bl_mul2 (m n : Nat) : bl (m * n) ≤ bl m + bl n := bl_le (by rw [Nat.pow_add]; exact Nat.mul_lt_mul'' (lt_bl m) (lt_bl n))
theorem bl_add2 {a b M : Nat} (ha : bl a ≤ M) (hb : bl b ≤ M) : bl (a + b) ≤ M + 1 := by
  refine bl_le ?_
  have h1 := Nat.lt_of_lt_of_le (lt_bl a) (Nat.pow_le_pow_right (by decide) ha)
  have h2 := Nat.lt_of_lt_of_le (lt_bl b) (Nat.pow_le_pow_right (by decide) hb)
  rw [Nat.pow_succ]; omega

theorem Pl.sum {x y : Bool × Nat × Int} (hx : Pl x) (hy : Pl y) : Sm (sumT x y) := by
  obtain ⟨s, n, e⟩ := x
  obtain ⟨t, m, f⟩ := y
  have b1 := hx.bits; have b2 := hy.bits
  have l1 := hx.l; have l2 := hy.l; have u1 := hx.u; have u2 := hy.u
  simp only at b1 b2 l1 l2 u1 u2
  have a1 : bl (lvA n e f) ≤ 2000 := by
    have := bl_shift2 n (e - min e f).toNat
    unfold lvA; omega
  have a2 : bl (lvB m e f) ≤ 2000 := by
    have := bl_shift2 m (f - min e f).toNat
    unfold lvB; omega
  have a3 := bl_add2 a1 a2
  have a4 := bl_mono2 (Nat.sub_le (lvA n e f) (lvB m e f))
  have a5 := bl_mono2 (Nat.sub_le (lvB m e f) (lvA n e f))
  show Sm (sumN s n e t m f)
  unfold sumN
  split
  · exact ⟨by simp only; omega, by simp only; omega, by simp only; omega⟩
  · split
    · exact ⟨by simp only; rw [bl_zero2]; omega, by simp only; omega, by simp only; omega⟩
    · split
      · exact ⟨by simp only; omega, by simp only; omega, by simp only; omega⟩
      · exact ⟨by simp only; omega, by simp only; omega, by simp only; omega⟩

/-- The sign, by the place. -/
theorem sgn_pos (x : Bool × Nat × Int) (way : Int) : (sgnI x.1 x.2.1 < 0 ↔ posV x way < 0) ∧ (0 < sgnI x.1 x.2.1 ↔ 0 < posV x way) ∧ (x.2.1 = 0 ↔ posV x way = 0) := by
  obtain ⟨s, n, e⟩ := x
  have c := clampR_bounds (endR s n e way)
  unfold sgnI posV
  simp only
  by_cases h0 : n = 0
  · rw [if_pos h0, if_pos h0]; simp [h0]
  · rw [if_neg h0, if_neg h0]
    unfold sgI
    cases s
    · rw [if_neg Bool.false_ne_true, if_neg Bool.false_ne_true]; omega
    · rw [if_pos rfl, if_pos rfl]; omega

theorem sum_g {x y : Bool × Nat × Int} (sx : Sm x) (sy : Sm y) (W : World) (po qo : Option Addr) (lp cp lq cq : Nat) (h0 : lp = (digits x.2.1).length) (n0 : NatV W (.slice po lp cp) x.2.1) (h1 : lq = (digits y.2.1).length) (n1 : NatV W (.slice qo lq cq) y.2.1) :
    Calls Tryz.prog 65 #[.agg #[.bool x.1, .slice po lp cp, .int .i64 x.2.2], .agg #[.bool y.1, .slice qo lq cq, .int .i64 y.2.2]] W fun ev w'' => ∃ vo vl vc, ev = .returned (.agg #[.bool (sumT x y).1, .slice vo vl vc, .int .i64 (sumT x y).2.2]) ∧ vl = (digits (sumT x y).2.1).length ∧ NatV w'' (.slice vo vl vc) (sumT x y).2.1 ∧ Below W.heap.size W w'' := by
  have a := sx.len; have b := sy.len; have c := sx.l; have d := sx.u; have e := sy.l; have f := sy.u
  refine (sum_any _ _ x.1 y.1 x.2.1 y.2.1 x.2.2 y.2.2 W ⟨po, lp, cp, rfl, h0, n0⟩ ⟨qo, lq, cq, rfl, h1, n1⟩ (by omega) (by omega) (by omega) (by omega) (by omega) (by omega)).mono ?_
  rintro ev w'' ⟨v, rfl, ⟨vo, vl, vc, rfl, h2, h3⟩, h4⟩
  exact ⟨vo, vl, vc, rfl, h2, h3, h4⟩

theorem prod_g {x y : Bool × Nat × Int} (sx : Sm x) (sy : Sm y) (W : World) (po qo : Option Addr) (lp cp lq cq : Nat) (h0 : lp = (digits x.2.1).length) (n0 : NatV W (.slice po lp cp) x.2.1) (h1 : lq = (digits y.2.1).length) (n1 : NatV W (.slice qo lq cq) y.2.1) :
    Calls Tryz.prog 67 #[.agg #[.bool x.1, .slice po lp cp, .int .i64 x.2.2], .agg #[.bool y.1, .slice qo lq cq, .int .i64 y.2.2]] W fun ev w'' => ∃ vo vl vc, ev = .returned (.agg #[.bool (prodN x y).1, .slice vo vl vc, .int .i64 (prodN x y).2.2]) ∧ vl = (digits (prodN x y).2.1).length ∧ NatV w'' (.slice vo vl vc) (prodN x y).2.1 ∧ Below W.heap.size W w'' := by
  have a := sx.len; have b := sy.len; have c := sx.l; have d := sx.u; have e := sy.l; have f := sy.u
  refine (product_any _ _ x.1 y.1 x.2.1 y.2.1 x.2.2 y.2.2 W ⟨po, lp, cp, rfl, h0, n0⟩ ⟨qo, lq, cq, rfl, h1, n1⟩ (by omega) (by omega) (by omega) (by omega) (by omega) (by omega)).mono ?_
  rintro ev w'' ⟨v, rfl, ⟨vo, vl, vc, rfl, h2, h3⟩, h4⟩
  exact ⟨vo, vl, vc, rfl, h2, h3, h4⟩

theorem iv_ne {l h : Nat} (i : Iv l h) (hz : holdsT (plT l) (plT h) = false) : (plT l).2.1 ≠ 0 ∧ (plT h).2.1 ≠ 0 := by
  have a := sgn_pos (plT l) 1
  have b := sgn_pos (plT h) 1
  rw [i.v1 1] at a
  rw [i.v2 1] at b
  have hl := i.le
  unfold holdsT at hz
  rw [Bool.and_eq_false_iff, decide_eq_false_iff_not, decide_eq_false_iff_not] at hz
  constructor
  · intro h0; have := a.2.2.1 h0; omega
  · intro h0; have := b.2.2.1 h0; omega

end Go.Proofs.YtonhpkigoplmaaaGreatDoor
namespace Go.Proofs.YtonhpkigoplmaaaGreatDoor
open Go.RowKit Go.Extern Ieee

/-- The number of a word in the range of plain floats. -/
theorem plT_wd (s : Bool) {r : Nat} (h1 : 553942754166571008 ≤ r) (h2 : r ≤ 8660422083433463808) : plainN (wd s r) = some (s, r % 4503599627370496 + 4503599627370496, ((r / 4503599627370496 : Nat) : Int) - 1075) := by
  have e1 : wd s r % 4503599627370496 = r % 4503599627370496 := by unfold wd; split <;> omega
  have e2 : wd s r / 4503599627370496 % 2048 = r / 4503599627370496 := by unfold wd; split <;> omega
  have e3 : decide (wd s r / 9223372036854775808 = 1) = s := by
    unfold wd
    cases s
    · rw [if_neg Bool.false_ne_true]; exact decide_eq_false (by omega)
    · rw [if_pos rfl]; exact decide_eq_true (by omega)
  unfold plainN
  rw [e1, e2, e3, if_neg (by omega), if_neg (by omega)]

/-- The mantissa's bounds. -/
theorem mf_cut (n : Nat) (e c : Int) (_h0 : n ≠ 0) (h1 : c ≤ e) (h2 : c ≤ e + bl n - 53) : mf n * 2 ^ (e + bl n - 53 - c).toNat ≤ n * 2 ^ (e - c).toNat ∧ n * 2 ^ (e - c).toNat ≤ (mf n + if inex n then 1 else 0) * 2 ^ (e + bl n - 53 - c).toNat := by
  by_cases hb : bl n ≤ 53
  · have hm : mf n = n * 2 ^ (53 - bl n) := by unfold mf; rw [if_pos hb]
    have hi : inex n = false := inex_small hb
    have : mf n * 2 ^ (e + bl n - 53 - c).toNat = n * 2 ^ (e - c).toNat := by
      rw [hm, Nat.mul_assoc, ← Nat.pow_add]; congr 2; omega
    rw [hi]
    simp only [Bool.false_eq_true, if_false, Nat.add_zero]
    omega
  · have hm : mf n = n / 2 ^ (bl n - 53) := by unfold mf; rw [if_neg hb]
    have hx : inex n = decide (n % 2 ^ (bl n - 53) ≠ 0) := by unfold inex; simp [show 53 < bl n by omega]
    have hp : 2 ^ (e + bl n - 53 - c).toNat = 2 ^ (bl n - 53) * 2 ^ (e - c).toNat := by rw [← Nat.pow_add]; congr 1; omega
    have hd := Nat.div_add_mod n (2 ^ (bl n - 53))
    have hl := Nat.mod_lt n (Nat.two_pow_pos (bl n - 53))
    rw [hp, ← Nat.mul_assoc, ← Nat.mul_assoc]
    rw [hm, hx]
    constructor
    · apply Nat.mul_le_mul_right
      rw [Nat.mul_comm]; omega
    · apply Nat.mul_le_mul_right
      by_cases hz : n % 2 ^ (bl n - 53) = 0
      · rw [decide_eq_false (by omega)]
        simp only [Bool.false_eq_true, if_false, Nat.add_zero]
        rw [Nat.mul_comm]; omega
      · rw [decide_eq_true hz, if_pos rfl, Nat.add_mul, Nat.one_mul, Nat.mul_comm (n / _)]; omega

theorem plT_zero : plT 0 = (false, 0, 0) := rfl
theorem wdP_zero : wdP 0 = 0 := rfl

end Go.Proofs.YtonhpkigoplmaaaGreatDoor
namespace Go.Proofs.YtonhpkigoplmaaaGreatDoor

/-- Powers of two. -/
def pw (k : Int) : Rat := (2 : Rat) ^ k
theorem pw_add (a b : Int) : pw (a + b) = pw a * pw b := Rat.zpow_add (by grind) a b
theorem pw_zero : pw 0 = 1 := Rat.zpow_zero 2
theorem pw_one : pw 1 = 2 := by unfold pw; grind
theorem pw_nat (n : Nat) : pw (n : Int) = ((2 ^ n : Nat) : Rat) := by
  unfold pw
  rw [Rat.zpow_natCast]
  induction n with
  | zero => rfl
  | succ n ih => rw [Rat.pow_succ, ih, Nat.pow_succ]; grind
theorem pw_pos (k : Int) : 0 < pw k := by
  rcases (show (∃ n : Nat, k = n) ∨ (∃ n : Nat, k = -(n : Int)) from by
    rcases Int.eq_nat_or_neg k with ⟨n, h | h⟩
    · left; exact ⟨n, h⟩
    · right; exact ⟨n, h⟩) with ⟨n, rfl⟩ | ⟨n, rfl⟩
  · rw [pw_nat]
    have := Nat.two_pow_pos n
    exact Rat.natCast_pos.2 this
  · have h : pw (-(n : Int)) * pw (n : Int) = 1 := by rw [← pw_add, show -(n : Int) + n = 0 by omega, pw_zero]
    have h2 : 0 < pw (n : Int) := by
      rw [pw_nat]
      exact Rat.natCast_pos.2 (Nat.two_pow_pos n)
    apply Decidable.byContradiction
    intro hc
    have := Rat.mul_nonneg (show 0 ≤ -pw (-(n : Int)) by grind) (Rat.le_of_lt h2)
    grind
theorem pw_le {a b : Int} (h : a ≤ b) : pw a ≤ pw b := by
  obtain ⟨n, rfl⟩ : ∃ n : Nat, b = a + n := ⟨(b - a).toNat, by omega⟩
  rw [pw_add, pw_nat]
  have h1 : (1 : Rat) ≤ ((2 ^ n : Nat) : Rat) := by
    have := Nat.two_pow_pos n
    have : ((1 : Nat) : Rat) ≤ ((2 ^ n : Nat) : Rat) := Rat.natCast_le_natCast.2 (by omega)
    exact this
  have := mul_le_l (Rat.le_of_lt (pw_pos a)) h1
  grind

/-- The number of a rung. -/
def rvQ (r : Int) : Rat := ((r % 4503599627370496 + 4503599627370496 : Int) : Rat) * pw (r / 4503599627370496 - 1075)

theorem rv_at {r m e : Int} (h1 : r = (e + 1074) * 4503599627370496 + m) (h2 : 4503599627370496 ≤ m) (h3 : m < 9007199254740992) : rvQ r = (m : Rat) * pw e := by
  unfold rvQ
  rw [show r % 4503599627370496 + 4503599627370496 = m by omega, show r / 4503599627370496 - 1075 = e by omega]

theorem rv_next {r m e : Int} (h1 : r = (e + 1074) * 4503599627370496 + m) (h2 : 4503599627370496 ≤ m) (h3 : m < 9007199254740992) : rvQ (r + 1) = ((m + 1 : Int) : Rat) * pw e := by
  by_cases h : m + 1 < 9007199254740992
  · exact rv_at (by omega) (by omega) h
  · have hm : m = 9007199254740991 := by omega
    rw [rv_at (r := r + 1) (m := 4503599627370496) (e := e + 1) (by omega) (by omega) (by omega), pw_add, pw_one, hm]
    grind

theorem rv_parts (r : Int) : ∃ m e : Int, r = (e + 1074) * 4503599627370496 + m ∧ 4503599627370496 ≤ m ∧ m < 9007199254740992 :=
  ⟨r % 4503599627370496 + 4503599627370496, r / 4503599627370496 - 1075, by omega, by omega, by omega⟩

theorem rv_pos (r : Int) : 0 < rvQ r := by
  obtain ⟨m, e, h1, h2, h3⟩ := rv_parts r
  rw [rv_at h1 h2 h3]
  exact Rat.mul_pos (Rat.intCast_pos.2 (by omega)) (pw_pos e)

/-- The next rung: a little more. -/
theorem rv_succ (r : Int) : rvQ r < rvQ (r + 1) ∧ rvQ (r + 1) ≤ rvQ r + eps * rvQ r := by
  obtain ⟨m, e, h1, h2, h3⟩ := rv_parts r
  rw [rv_at h1 h2 h3, rv_next h1 h2 h3]
  have hp := pw_pos e
  have hm : (4503599627370496 : Rat) ≤ (m : Rat) := by
    have : ((4503599627370496 : Int) : Rat) ≤ (m : Rat) := Rat.intCast_le_intCast.2 h2
    exact this
  have e1 : ((m + 1 : Int) : Rat) = (m : Rat) + 1 := by grind
  rw [e1]
  have := mul_le_r (Rat.le_of_lt hp) hm
  unfold eps
  constructor <;> grind

theorem rv_mono {r t : Int} (h : r ≤ t) : rvQ r ≤ rvQ t := by
  obtain ⟨n, rfl⟩ : ∃ n : Nat, t = r + n := ⟨(t - r).toNat, by omega⟩
  clear h
  induction n with
  | zero => simp
  | succ n ih =>
    have := (rv_succ (r + n)).1
    rw [show r + ((n + 1 : Nat) : Int) = r + n + 1 by omega]
    grind
end Go.Proofs.YtonhpkigoplmaaaGreatDoor
namespace Go.Proofs.YtonhpkigoplmaaaGreatDoor
open Go.RowKit Go.Extern Ieee
attribute [local go_sem] run_store_float

theorem c_fld0 (x y : Nat) (w : World) : (Instr.field 130 (.agg #[.float .f64 x, .float .f64 y]) 0).run Tryz.prog w = .ok (.float .f64 x) w := by kernel_rfl
theorem c_fld1 (x y : Nat) (w : World) : (Instr.field 130 (.agg #[.float .f64 x, .float .f64 y]) 1).run Tryz.prog w = .ok (.float .f64 y) w := by kernel_rfl

set_option maxRecDepth 100000 in
set_option maxHeartbeats 4000000 in
theorem diffsF_any (al ah bl bh d1 u1 d2 u2 : Nat) (w : World) (h1 : Gives 89 #[.float .f64 al, .float .f64 (negW bh)] d1 u1) (h2 : Gives 89 #[.float .f64 ah, .float .f64 (negW bl)] d2 u2) :
    Calls Tryz.prog 90 #[.agg #[.float .f64 al, .float .f64 ah], .agg #[.float .f64 bl, .float .f64 bh]] w fun ev w' => ev = .returned (.tuple #[.float .f64 d1, .float .f64 u2]) ∧ Below w.heap.size w w' := by
  have H1 : Hid (∀ w, Calls Tryz.prog 89 #[.float .f64 al, .float .f64 (negW bh)] w fun ev w' => ev = .returned (.agg #[.float .f64 d1, .float .f64 u1]) ∧ Below w.heap.size w w') := h1
  have H2 : Hid (∀ w, Calls Tryz.prog 89 #[.float .f64 ah, .float .f64 (negW bl)] w fun ev w' => ev = .returned (.agg #[.float .f64 d2, .float .f64 u2]) ∧ Below w.heap.size w w') := h2
  have n0 : ∀ w, (Op.unary .neg (.float .f64 bl)).run Tryz.prog w = .ok (.float .f64 (negW bl)) w := fun w => run_neg_float w _
  have n1 : ∀ w, (Op.unary .neg (.float .f64 bh)).run Tryz.prog w = .ok (.float .f64 (negW bh)) w := fun w => run_neg_float w _
  have f0 := c_fld0
  have f1 := c_fld1
  clear h1 h2
  generalize negW bl = nl at *
  generalize negW bh = nh at *
  go_enter Tryz.func90, Tryz.ntmps90
  go_wp2_with fail
  have B0 := blk_old (blk_new w (Obj.cells #[.float .f64 al, .float .f64 ah] 67)) (Obj.cells #[.float .f64 bl, .float .f64 bh] 67)
  have B1 := blk_new (w.alloc (Obj.cells #[.float .f64 al, .float .f64 ah] 67)) (Obj.cells #[.float .f64 bl, .float .f64 bh] 67)
  have hW : Below w.heap.size w ((w.alloc (Obj.cells #[.float .f64 al, .float .f64 ah] 67)).alloc (Obj.cells #[.float .f64 bl, .float .f64 bh] 67)) := ((Below.refl _ _).alloc (Nat.le_refl _) _).alloc (by simp) _
  simp only [World.size_alloc] at B1
  generalize ((w.alloc (Obj.cells #[.float .f64 al, .float .f64 ah] 67)).alloc (Obj.cells #[.float .f64 bl, .float .f64 bh] 67)) = W2 at *
  have HB0 : Hid (W2.drew.heap[w.heap.size]? = _) := B0
  have HB1 : Hid (W2.drew.heap[w.heap.size + 1]? = _) := B1
  have HW : Hid (Below w.heap.size w W2.drew) := hW.drew
  obtain ⟨a0, a1, -, -⟩ := blk2 B0
  obtain ⟨b0, b1, -, -⟩ := blk2 B1
  clear B0 B1 hW
  go_region_held3 (fun W => W.cell? ⟨w.heap.size, 0, none⟩ = some (.float .f64 al) ∧ W.cell? ⟨w.heap.size, 1, none⟩ = some (.float .f64 ah) ∧ W.cell? ⟨w.heap.size + 1, 0, none⟩ = some (.float .f64 bl) ∧ W.cell? ⟨w.heap.size + 1, 1, none⟩ = some (.float .f64 bh)) (first | (go_keep; done) | (refine ⟨?_, ?_, ?_, ?_⟩ <;> first | (go_keep; done) | (rw [cell_set_ne (by omega), cell_set_ne (by omega)]; assumption) | assumption))
    (first
      | (go_at_call 89; with_reducible (refine Calls.mono (H1.out _) ?_); rintro e w3 ⟨rfl, hb3⟩
         have HB3 : Hid (Below _ _ w3) := hb3
         obtain ⟨a0, a1, -, -⟩ := blk2 (blk_below HB0.out hb3)
         obtain ⟨b0, b1, -, -⟩ := blk2 (blk_below HB1.out hb3)
         clear hb3)
      | (go_at_call 89; with_reducible (refine Calls.mono (H2.out _) ?_); rintro e w4 ⟨rfl, hb4⟩
         have HB4 : Hid (Below _ _ w4) := hb4
         obtain ⟨a0, a1, -, -⟩ := blk2 (blk_below (blk_below HB0.out HB3.out) hb4)
         obtain ⟨b0, b1, -, -⟩ := blk2 (blk_below (blk_below HB1.out HB3.out) hb4)
         clear hb4))
  have hX : Below w.heap.size w w4 := (HW.out.trans (HB3.out.mono HW.out.size)).trans (HB4.out.mono (Nat.le_trans HW.out.size HB3.out.size))
  go_wp2_with fail
  refine bodyPost_ret (v := .tuple #[.float .f64 d1, .float .f64 u2]) (by simp [results, Tryz.results90, go_sem]) rfl ?_
  exact ⟨rfl, hX⟩

end Go.Proofs.YtonhpkigoplmaaaGreatDoor
namespace Go.Proofs.YtonhpkigoplmaaaGreatDoor
open Go.RowKit Go.Extern Ieee
attribute [local go_sem] run_store_float

end Go.Proofs.YtonhpkigoplmaaaGreatDoor
namespace Go.Proofs.YtonhpkigoplmaaaGreatDoor
open Go.RowKit Go.Extern Ieee
attribute [local go_sem] run_store_float

/-- Does an interval hold 0, by how its ends stand to 0? -/
theorem holds_any (al ah : Nat) (o1 o2 : Ordering) (w : World) (h1 : FloatKind.f64.format.order al 0 = some o1) (h2 : FloatKind.f64.format.order ah 0 = some o2) :
    Calls Tryz.prog 93 #[.agg #[.float .f64 al, .float .f64 ah]] w fun ev w' => ev = .returned (.bool (o1 != .gt && o2 != .lt)) ∧ Below w.heap.size w w' := by
  cases o1 <;> cases o2 <;>
  (go_enter Tryz.func93, Tryz.ntmps93
   go_wp2
   go_ret
   exact ⟨rfl, (Below.refl _ _).alloc (Nat.le_refl _) _⟩)

end Go.Proofs.YtonhpkigoplmaaaGreatDoor
namespace Go.Proofs.YtonhpkigoplmaaaGreatDoor
open Go.RowKit Go.Extern Ieee
attribute [local go_sem] run_store_float

end Go.Proofs.YtonhpkigoplmaaaGreatDoor
namespace Go.Proofs.YtonhpkigoplmaaaGreatDoor
open Go.RowKit Go.Extern Ieee
attribute [local go_sem] run_store_float

set_option maxHeartbeats 4000000 in
set_option maxRecDepth 100000 in
theorem made_any (A : Nat → Addr) (lo hi : Nat) (w : World) (h1 : lo < 18446744073709551616) (h2 : hi < 18446744073709551616) (hS : Sents A w) :
    Calls Tryz.prog 40 #[.agg #[.int .u64 (lo : Int), .int .u64 (hi : Int)]] w fun e w' => e = .returned (.agg #[.float .f64 (makeN lo hi).1, .float .f64 (makeN lo hi).2.1]) ∧ Below w.heap.size w w' := by
  have H1 : Hid (lo < 18446744073709551616) := h1
  have H2 : Hid (hi < 18446744073709551616) := h2
  clear h1 h2
  go_enter Tryz.func40, Tryz.ntmps40
  go_wp2_with fail
  have B0 := blk_old (blk_new w (Obj.cells #[Value.int IntKind.u64 lo, Value.int IntKind.u64 hi] 33)) (Obj.cells #[Value.float FloatKind.f64 0, Value.float FloatKind.f64 0] 67)
  have B1 := blk_new (w.alloc (Obj.cells #[Value.int IntKind.u64 lo, Value.int IntKind.u64 hi] 33)) (Obj.cells #[Value.float FloatKind.f64 0, Value.float FloatKind.f64 0] 67)
  have hW : Below w.heap.size w ((w.alloc (Obj.cells #[Value.int IntKind.u64 lo, Value.int IntKind.u64 hi] 33)).alloc (Obj.cells #[Value.float FloatKind.f64 0, Value.float FloatKind.f64 0] 67)) :=
    ((Below.refl _ _).alloc (Nat.le_refl _) _).alloc (by simp) _
  simp only [World.size_alloc] at B1
  generalize ((w.alloc (Obj.cells #[Value.int IntKind.u64 lo, Value.int IntKind.u64 hi] 33)).alloc (Obj.cells #[Value.float FloatKind.f64 0, Value.float FloatKind.f64 0] 67)) = W2 at *
  obtain ⟨k00, k01, -, -⟩ := blk2 B0
  have HB0 : Hid (W2.heap[w.heap.size]? = _) := B0
  have HB1 : Hid (W2.heap[w.heap.size + 1]? = _) := B1
  have HW : Hid (Below w.heap.size w W2) := hW
  have HS2 : Hid (Sents A W2) := hS.below hW (Nat.le_refl _)
  have hz : w.heap.size + 1 < W2.heap.size := (Array.getElem?_eq_some_iff.1 B1).1
  clear B0 B1 hW hS
  generalize hmk : makeN lo hi = r at *
  have HMK : Hid (makeN lo hi = r) := hmk
  clear hmk
  obtain ⟨rl, rh, rk⟩ := r
  have hrk : Hid (rk ≤ 2) := by
    show rk ≤ 2
    have := HMK.out
    unfold makeN at this
    split at this
    · simp at this; omega
    · split at this <;> simp at this <;> omega
  go_region_held3 (fun W => W.cell? ⟨w.heap.size, 0, none⟩ = some (.int .u64 (lo : Int)) ∧ W.cell? ⟨w.heap.size, 1, none⟩ = some (.int .u64 (hi : Int))) (first | (go_keep; done) | (refine ⟨?_, ?_⟩ <;> first | (go_keep; done) | (rw [cell_set_ne (by omega), cell_set_ne (by omega)]; assumption)))
    (first
      | (go_at_call_of 56 (Value.int IntKind.u64 (lo : Int)); refine (float_any lo _).mono ?_; rintro e w3 ⟨rfl, rfl⟩)
      | (go_at_call_of 56 (Value.int IntKind.u64 (hi : Int)); refine (float_any hi _).mono ?_; rintro e w3 ⟨rfl, rfl⟩)
      | (go_at_call 55; refine (make_any A lo hi _ H1.out H2.out ?_).mono ?_; exact HS2.out.below ((Below.refl _ _).drew) (Nat.le_refl _); rintro e w4 ⟨rfl, hb4⟩; rw [HMK.out]; dsimp only; have HB5 : Hid (Below W2.heap.size W2 w4) := (Below.refl _ W2).drew.trans (hb4.mono (Nat.le_refl _)); obtain ⟨k00, k01, -, -⟩ := blk2 (blk_below HB0.out HB5.out); clear hb4)
      | (go_at_call 55; refine (make_any A lo hi _ H1.out H2.out ?_).mono ?_; exact HS2.out.below (((Below.refl _ _).alloc (Nat.le_refl _) _).drew) (Nat.le_refl _); rintro e w4 ⟨rfl, hb4⟩; rw [HMK.out]; dsimp only; have HB5 : Hid (Below W2.heap.size W2 w4) := (((Below.refl _ W2).alloc (Nat.le_refl _) _).drew).trans (hb4.mono (by simp)); obtain ⟨k00, k01, -, -⟩ := blk2 (blk_below HB0.out HB5.out); have HQ : Hid (w4.heap[W2.heap.size]? = some (Obj.cells #[Value.float FloatKind.f64 0, Value.float FloatKind.f64 0] 67 (0, 0))) := blk_below (show (World.drew (W2.alloc _)).heap[W2.heap.size]? = _ from blk_new W2 _) hb4; obtain ⟨kq0, kq1, kq2, kq3⟩ := blk2 HQ.out; clear hb4))
  all_goals
    first
    | (have hbw := (HB5.out.setCell (p := ⟨W2.heap.size, 0, none⟩) (Nat.le_refl _) (.float .f64 rl)).setCell (p := ⟨W2.heap.size, 1, none⟩) (Nat.le_refl _) (.float .f64 rh)
       have B5 := blk_store2 (a := .float .f64 rl) (b := .float .f64 rh) HQ.out
       clear HQ kq0 kq1 kq2 kq3 k00 k01
       generalize (w4.setCell { block := W2.heap.size, off := 0 } (Value.float FloatKind.f64 rl)).setCell { block := W2.heap.size, off := 1 } (Value.float FloatKind.f64 rh) = W5 at *)
    | (have hbw := HB5.out.alloc HB5.out.size (Obj.cells #[Value.float FloatKind.f64 rl, Value.float FloatKind.f64 rh] 67)
       have B5 := blk_new w4 (Obj.cells #[Value.float FloatKind.f64 rl, Value.float FloatKind.f64 rh] 67)
       clear k00 k01
       generalize (w4.alloc (Obj.cells #[Value.float FloatKind.f64 rl, Value.float FloatKind.f64 rh] 67)) = W5 at *)
  all_goals
    have hS5 := HS2.out.below hbw (Nat.le_refl _)
    have B6 := blk_below HB1.out hbw
    have hb6 : Below w.heap.size w W5 := HW.out.trans (hbw.mono HW.out.size)
    have HB6 : Hid (W5.heap[w.heap.size + 1]? = _) := B6
    have HB7 : Hid (W5.heap[_]? = _) := B5
    have Hb6 : Hid (Below w.heap.size w W5) := hb6
    have HS5 : Hid (Sents A W5) := hS5
    clear hbw B5 B6 hb6 hS5 HB0 HB1 HW HS2 HB5
    obtain ⟨kg0, kg1, -, -⟩ := blk2 HB7.out
    obtain ⟨k0, k1, k2, k3⟩ := blk2 HB6.out
    go_wp2_with fail
    refine bodyPost_ret (v := .agg #[.float .f64 rl, .float .f64 rh]) (by simp [results, Tryz.results40, go_sem, k0, k1]) rfl ?_
    refine ⟨by rw [HMK.out], ?_⟩
    exact (Hb6.out.setCell (by simp) _).setCell (by simp) _
end Go.Proofs.YtonhpkigoplmaaaGreatDoor
namespace Go.Proofs.YtonhpkigoplmaaaGreatDoor
open Go.RowKit Go.Extern Ieee
attribute [local go_sem] run_store_float

end Go.Proofs.YtonhpkigoplmaaaGreatDoor
namespace Go.Proofs.YtonhpkigoplmaaaGreatDoor
open Go.RowKit Go.Extern Ieee
attribute [local go_sem] run_store_float

/-- The lower, the greater one of two floats, as the built-in functions give it. -/
def MinF (x y z : Nat) : Prop := ∀ (w : World) (ts : Array TypeId) (t : TypeId), (Builtin.min_ ts t #[.float .f64 x, .float .f64 y]).run Tryz.prog w = .ok (.float .f64 z) w
def MaxF (x y z : Nat) : Prop := ∀ (w : World) (ts : Array TypeId) (t : TypeId), (Builtin.max_ ts t #[.float .f64 x, .float .f64 y]).run Tryz.prog w = .ok (.float .f64 z) w

theorem c_ix0 (a b c d e f : Nat) (w : World) : (Instr.index 180 (.agg #[.float .f64 a, .float .f64 b, .float .f64 c, .float .f64 d, .float .f64 e, .float .f64 f]) (.int .i64 0)).run Tryz.prog w = .ok (.agg #[.float .f64 a, .float .f64 b]) w := by kernel_rfl
theorem c_ix1 (a b c d e f : Nat) (w : World) : (Instr.index 180 (.agg #[.float .f64 a, .float .f64 b, .float .f64 c, .float .f64 d, .float .f64 e, .float .f64 f]) (.int .i64 1)).run Tryz.prog w = .ok (.agg #[.float .f64 c, .float .f64 d]) w := by kernel_rfl
theorem c_ix2 (a b c d e f : Nat) (w : World) : (Instr.index 180 (.agg #[.float .f64 a, .float .f64 b, .float .f64 c, .float .f64 d, .float .f64 e, .float .f64 f]) (.int .i64 2)).run Tryz.prog w = .ok (.agg #[.float .f64 e, .float .f64 f]) w := by kernel_rfl

set_option maxRecDepth 100000 in
set_option maxHeartbeats 4000000 in
theorem corners_mul (al ah bl bh d1 u1 d2 u2 d3 u3 d4 u4 l2 l3 lo g2 g3 hi : Nat) (w : World)
    (m1 : MinF d1 d2 l2) (m2 : MinF l2 d3 l3) (m3 : MinF l3 d4 lo) (x1 : MaxF u1 u2 g2) (x2 : MaxF g2 u3 g3) (x3 : MaxF g3 u4 hi)
    (h1 : Gives 92 #[.float .f64 al, .float .f64 bl] d1 u1) (h2 : Gives 92 #[.float .f64 al, .float .f64 bh] d2 u2) (h3 : Gives 92 #[.float .f64 ah, .float .f64 bl] d3 u3) (h4 : Gives 92 #[.float .f64 ah, .float .f64 bh] d4 u4) :
    Calls Tryz.prog 91 #[.func (.func 92) #[] #[], .agg #[.float .f64 al, .float .f64 ah], .agg #[.float .f64 bl, .float .f64 bh]] w fun ev w' => ev = .returned (.tuple #[.float .f64 lo, .float .f64 hi]) ∧ Below w.heap.size w w' := by
  have H1 : Hid (∀ w, Calls Tryz.prog 92 #[.float .f64 al, .float .f64 bl] w fun ev w' => ev = .returned (.agg #[.float .f64 d1, .float .f64 u1]) ∧ Below w.heap.size w w') := h1
  have H2 : Hid (∀ w, Calls Tryz.prog 92 #[.float .f64 al, .float .f64 bh] w fun ev w' => ev = .returned (.agg #[.float .f64 d2, .float .f64 u2]) ∧ Below w.heap.size w w') := h2
  have H3 : Hid (∀ w, Calls Tryz.prog 92 #[.float .f64 ah, .float .f64 bl] w fun ev w' => ev = .returned (.agg #[.float .f64 d3, .float .f64 u3]) ∧ Below w.heap.size w w') := h3
  have H4 : Hid (∀ w, Calls Tryz.prog 92 #[.float .f64 ah, .float .f64 bh] w fun ev w' => ev = .returned (.agg #[.float .f64 d4, .float .f64 u4]) ∧ Below w.heap.size w w') := h4
  have f0 := c_fld0
  have f1 := c_fld1
  clear h1 h2 h3 h4
  go_enter Tryz.func91, Tryz.ntmps91
  go_wp2_with fail
  have B0 := blk_old (blk_new w (Obj.cells #[.float .f64 al, .float .f64 ah] 67)) (Obj.cells #[.float .f64 bl, .float .f64 bh] 67)
  have B1 := blk_new (w.alloc (Obj.cells #[.float .f64 al, .float .f64 ah] 67)) (Obj.cells #[.float .f64 bl, .float .f64 bh] 67)
  have hW : Below w.heap.size w ((w.alloc (Obj.cells #[.float .f64 al, .float .f64 ah] 67)).alloc (Obj.cells #[.float .f64 bl, .float .f64 bh] 67)) := ((Below.refl _ _).alloc (Nat.le_refl _) _).alloc (by simp) _
  simp only [World.size_alloc] at B1
  generalize ((w.alloc (Obj.cells #[.float .f64 al, .float .f64 ah] 67)).alloc (Obj.cells #[.float .f64 bl, .float .f64 bh] 67)) = W2 at *
  refine Calls.mono (H1.out _) ?_
  rintro e w3 ⟨rfl, hb3⟩
  have C0 := blk_old (blk_below B0 hb3) (Obj.cells #[.float .f64 d1, .float .f64 u1] 130)
  have C1 := blk_old (blk_below B1 hb3) (Obj.cells #[.float .f64 d1, .float .f64 u1] 130)
  have hX : Below w.heap.size w ((w3.alloc (Obj.cells #[.float .f64 d1, .float .f64 u1] 130)).drew) := ((hW.trans (hb3.mono hW.size)).alloc (Nat.le_trans hW.size hb3.size) _).drew
  clear B0 B1 hb3 hW H1
  go_wp2_with fail
  go_region
  have HC0 : Hid ((w3.alloc (Obj.cells #[.float .f64 d1, .float .f64 u1] 130)).drew.heap[w.heap.size]? = _) := C0
  have HC1 : Hid ((w3.alloc (Obj.cells #[.float .f64 d1, .float .f64 u1] 130)).drew.heap[w.heap.size + 1]? = _) := C1
  have HX : Hid (Below w.heap.size w (w3.alloc (Obj.cells #[.float .f64 d1, .float .f64 u1] 130)).drew) := hX
  clear C0 C1 hX
  generalize (w3.alloc (Obj.cells #[.float .f64 d1, .float .f64 u1] 130)).drew = W4 at *
  obtain ⟨a0, a1, -, -⟩ := blk2 HC0.out
  obtain ⟨b0, b1, -, -⟩ := blk2 HC1.out
  go_wp2_with fail
  have HD0 : Hid (W4.drew.heap[w.heap.size]? = _) := HC0.out
  have HD1 : Hid (W4.drew.heap[w.heap.size + 1]? = _) := HC1.out
  have HY : Hid (Below w.heap.size w W4.drew) := HX.out.drew
  clear HC0 HC1 HX
  go_region_held3 (fun W => W.cell? ⟨w.heap.size, 0, none⟩ = some (.float .f64 al) ∧ W.cell? ⟨w.heap.size, 1, none⟩ = some (.float .f64 ah) ∧ W.cell? ⟨w.heap.size + 1, 0, none⟩ = some (.float .f64 bl) ∧ W.cell? ⟨w.heap.size + 1, 1, none⟩ = some (.float .f64 bh)) (first | (go_keep; done) | (refine ⟨?_, ?_, ?_, ?_⟩ <;> first | (go_keep; done) | assumption))
    (first
      | (go_at_call 92; with_reducible (refine Calls.mono (H2.out _) ?_); rintro e w5 ⟨rfl, hb5⟩
         have HB5 : Hid (Below _ _ w5) := hb5
         obtain ⟨a0, a1, -, -⟩ := blk2 (blk_below HD0.out hb5)
         obtain ⟨b0, b1, -, -⟩ := blk2 (blk_below HD1.out hb5)
         clear hb5)
      | (go_at_call 92; with_reducible (refine Calls.mono (H3.out _) ?_); rintro e w6 ⟨rfl, hb6⟩
         have HB6 : Hid (Below _ _ w6) := hb6
         obtain ⟨a0, a1, -, -⟩ := blk2 (blk_below (blk_below HD0.out HB5.out) hb6)
         obtain ⟨b0, b1, -, -⟩ := blk2 (blk_below (blk_below HD1.out HB5.out) hb6)
         clear hb6)
      | (go_at_call 92; with_reducible (refine Calls.mono (H4.out _) ?_); rintro e w7 ⟨rfl, hb7⟩
         have HB7 : Hid (Below _ _ w7) := hb7
         obtain ⟨a0, a1, -, -⟩ := blk2 (blk_below (blk_below (blk_below HD0.out HB5.out) HB6.out) hb7)
         obtain ⟨b0, b1, -, -⟩ := blk2 (blk_below (blk_below (blk_below HD1.out HB5.out) HB6.out) hb7)
         clear hb7))
  have HZ : Hid (Below w.heap.size w w7) := ((HY.out.trans (HB5.out.mono HY.out.size)).trans (HB6.out.mono (Nat.le_trans HY.out.size HB5.out.size))).trans (HB7.out.mono (Nat.le_trans (Nat.le_trans HY.out.size HB5.out.size) HB6.out.size))
  clear HB5 HB6 HB7 HY HD0 HD1 H2 H3 H4 a0 a1 b0 b1
  have i0 := c_ix0 d2 u2 d3 u3 d4 u4
  have i1 := c_ix1 d2 u2 d3 u3 d4 u4
  have i2 := c_ix2 d2 u2 d3 u3 d4 u4
  unfold MinF at m1 m2 m3
  unfold MaxF at x1 x2 x3
  go_wp2_with fail
  refine wp_loop_rounds 4 ?_
  rw [rounds_succ]
  go_wp2_with fail
  go_region
  go_wp2_with fail
  rw [rounds_succ]
  go_wp2_with fail
  go_region
  go_wp2_with fail
  rw [rounds_succ]
  go_wp2_with fail
  go_region
  go_wp2_with fail
  rw [rounds_succ]
  go_wp2_with fail
  have hZ8 : Below w.heap.size w (((w7.alloc (Obj.cells #[.float .f64 d2, .float .f64 u2] 130)).alloc (Obj.cells #[.float .f64 d3, .float .f64 u3] 130)).alloc (Obj.cells #[.float .f64 d4, .float .f64 u4] 130)).drew.drew.drew := (((HZ.out.alloc HZ.out.size _).alloc (by have := HZ.out.size; simp; omega) _).alloc (by have := HZ.out.size; simp; omega) _).drew.drew.drew
  refine bodyPost_ret (v := .tuple #[.float .f64 lo, .float .f64 hi]) (by simp [results, Tryz.results91, go_sem]) rfl ?_
  exact ⟨rfl, hZ8⟩
end Go.Proofs.YtonhpkigoplmaaaGreatDoor
namespace Go.Proofs.YtonhpkigoplmaaaGreatDoor
open Go.RowKit Go.Extern Ieee
attribute [local go_sem] run_store_float

set_option maxRecDepth 100000 in
set_option maxHeartbeats 4000000 in
theorem corners_quo (al ah bl bh d1 u1 d2 u2 d3 u3 d4 u4 l2 l3 lo g2 g3 hi : Nat) (w : World)
    (m1 : MinF d1 d2 l2) (m2 : MinF l2 d3 l3) (m3 : MinF l3 d4 lo) (x1 : MaxF u1 u2 g2) (x2 : MaxF g2 u3 g3) (x3 : MaxF g3 u4 hi)
    (h1 : Gives 94 #[.float .f64 al, .float .f64 bl] d1 u1) (h2 : Gives 94 #[.float .f64 al, .float .f64 bh] d2 u2) (h3 : Gives 94 #[.float .f64 ah, .float .f64 bl] d3 u3) (h4 : Gives 94 #[.float .f64 ah, .float .f64 bh] d4 u4) :
    Calls Tryz.prog 91 #[.func (.func 94) #[] #[], .agg #[.float .f64 al, .float .f64 ah], .agg #[.float .f64 bl, .float .f64 bh]] w fun ev w' => ev = .returned (.tuple #[.float .f64 lo, .float .f64 hi]) ∧ Below w.heap.size w w' := by
  have H1 : Hid (∀ w, Calls Tryz.prog 94 #[.float .f64 al, .float .f64 bl] w fun ev w' => ev = .returned (.agg #[.float .f64 d1, .float .f64 u1]) ∧ Below w.heap.size w w') := h1
  have H2 : Hid (∀ w, Calls Tryz.prog 94 #[.float .f64 al, .float .f64 bh] w fun ev w' => ev = .returned (.agg #[.float .f64 d2, .float .f64 u2]) ∧ Below w.heap.size w w') := h2
  have H3 : Hid (∀ w, Calls Tryz.prog 94 #[.float .f64 ah, .float .f64 bl] w fun ev w' => ev = .returned (.agg #[.float .f64 d3, .float .f64 u3]) ∧ Below w.heap.size w w') := h3
  have H4 : Hid (∀ w, Calls Tryz.prog 94 #[.float .f64 ah, .float .f64 bh] w fun ev w' => ev = .returned (.agg #[.float .f64 d4, .float .f64 u4]) ∧ Below w.heap.size w w') := h4
  have f0 := c_fld0
  have f1 := c_fld1
  clear h1 h2 h3 h4
  go_enter Tryz.func91, Tryz.ntmps91
  go_wp2_with fail
  have B0 := blk_old (blk_new w (Obj.cells #[.float .f64 al, .float .f64 ah] 67)) (Obj.cells #[.float .f64 bl, .float .f64 bh] 67)
  have B1 := blk_new (w.alloc (Obj.cells #[.float .f64 al, .float .f64 ah] 67)) (Obj.cells #[.float .f64 bl, .float .f64 bh] 67)
  have hW : Below w.heap.size w ((w.alloc (Obj.cells #[.float .f64 al, .float .f64 ah] 67)).alloc (Obj.cells #[.float .f64 bl, .float .f64 bh] 67)) := ((Below.refl _ _).alloc (Nat.le_refl _) _).alloc (by simp) _
  simp only [World.size_alloc] at B1
  generalize ((w.alloc (Obj.cells #[.float .f64 al, .float .f64 ah] 67)).alloc (Obj.cells #[.float .f64 bl, .float .f64 bh] 67)) = W2 at *
  refine Calls.mono (H1.out _) ?_
  rintro e w3 ⟨rfl, hb3⟩
  have C0 := blk_old (blk_below B0 hb3) (Obj.cells #[.float .f64 d1, .float .f64 u1] 130)
  have C1 := blk_old (blk_below B1 hb3) (Obj.cells #[.float .f64 d1, .float .f64 u1] 130)
  have hX : Below w.heap.size w ((w3.alloc (Obj.cells #[.float .f64 d1, .float .f64 u1] 130)).drew) := ((hW.trans (hb3.mono hW.size)).alloc (Nat.le_trans hW.size hb3.size) _).drew
  clear B0 B1 hb3 hW H1
  go_wp2_with fail
  go_region
  have HC0 : Hid ((w3.alloc (Obj.cells #[.float .f64 d1, .float .f64 u1] 130)).drew.heap[w.heap.size]? = _) := C0
  have HC1 : Hid ((w3.alloc (Obj.cells #[.float .f64 d1, .float .f64 u1] 130)).drew.heap[w.heap.size + 1]? = _) := C1
  have HX : Hid (Below w.heap.size w (w3.alloc (Obj.cells #[.float .f64 d1, .float .f64 u1] 130)).drew) := hX
  clear C0 C1 hX
  generalize (w3.alloc (Obj.cells #[.float .f64 d1, .float .f64 u1] 130)).drew = W4 at *
  obtain ⟨a0, a1, -, -⟩ := blk2 HC0.out
  obtain ⟨b0, b1, -, -⟩ := blk2 HC1.out
  go_wp2_with fail
  have HD0 : Hid (W4.drew.heap[w.heap.size]? = _) := HC0.out
  have HD1 : Hid (W4.drew.heap[w.heap.size + 1]? = _) := HC1.out
  have HY : Hid (Below w.heap.size w W4.drew) := HX.out.drew
  clear HC0 HC1 HX
  go_region_held3 (fun W => W.cell? ⟨w.heap.size, 0, none⟩ = some (.float .f64 al) ∧ W.cell? ⟨w.heap.size, 1, none⟩ = some (.float .f64 ah) ∧ W.cell? ⟨w.heap.size + 1, 0, none⟩ = some (.float .f64 bl) ∧ W.cell? ⟨w.heap.size + 1, 1, none⟩ = some (.float .f64 bh)) (first | (go_keep; done) | (refine ⟨?_, ?_, ?_, ?_⟩ <;> first | (go_keep; done) | assumption))
    (first
      | (go_at_call 94; with_reducible (refine Calls.mono (H2.out _) ?_); rintro e w5 ⟨rfl, hb5⟩
         have HB5 : Hid (Below _ _ w5) := hb5
         obtain ⟨a0, a1, -, -⟩ := blk2 (blk_below HD0.out hb5)
         obtain ⟨b0, b1, -, -⟩ := blk2 (blk_below HD1.out hb5)
         clear hb5)
      | (go_at_call 94; with_reducible (refine Calls.mono (H3.out _) ?_); rintro e w6 ⟨rfl, hb6⟩
         have HB6 : Hid (Below _ _ w6) := hb6
         obtain ⟨a0, a1, -, -⟩ := blk2 (blk_below (blk_below HD0.out HB5.out) hb6)
         obtain ⟨b0, b1, -, -⟩ := blk2 (blk_below (blk_below HD1.out HB5.out) hb6)
         clear hb6)
      | (go_at_call 94; with_reducible (refine Calls.mono (H4.out _) ?_); rintro e w7 ⟨rfl, hb7⟩
         have HB7 : Hid (Below _ _ w7) := hb7
         obtain ⟨a0, a1, -, -⟩ := blk2 (blk_below (blk_below (blk_below HD0.out HB5.out) HB6.out) hb7)
         obtain ⟨b0, b1, -, -⟩ := blk2 (blk_below (blk_below (blk_below HD1.out HB5.out) HB6.out) hb7)
         clear hb7))
  have HZ : Hid (Below w.heap.size w w7) := ((HY.out.trans (HB5.out.mono HY.out.size)).trans (HB6.out.mono (Nat.le_trans HY.out.size HB5.out.size))).trans (HB7.out.mono (Nat.le_trans (Nat.le_trans HY.out.size HB5.out.size) HB6.out.size))
  clear HB5 HB6 HB7 HY HD0 HD1 H2 H3 H4 a0 a1 b0 b1
  have i0 := c_ix0 d2 u2 d3 u3 d4 u4
  have i1 := c_ix1 d2 u2 d3 u3 d4 u4
  have i2 := c_ix2 d2 u2 d3 u3 d4 u4
  unfold MinF at m1 m2 m3
  unfold MaxF at x1 x2 x3
  go_wp2_with fail
  refine wp_loop_rounds 4 ?_
  rw [rounds_succ]
  go_wp2_with fail
  go_region
  go_wp2_with fail
  rw [rounds_succ]
  go_wp2_with fail
  go_region
  go_wp2_with fail
  rw [rounds_succ]
  go_wp2_with fail
  go_region
  go_wp2_with fail
  rw [rounds_succ]
  go_wp2_with fail
  have hZ8 : Below w.heap.size w (((w7.alloc (Obj.cells #[.float .f64 d2, .float .f64 u2] 130)).alloc (Obj.cells #[.float .f64 d3, .float .f64 u3] 130)).alloc (Obj.cells #[.float .f64 d4, .float .f64 u4] 130)).drew.drew.drew := (((HZ.out.alloc HZ.out.size _).alloc (by have := HZ.out.size; simp; omega) _).alloc (by have := HZ.out.size; simp; omega) _).drew.drew.drew
  refine bodyPost_ret (v := .tuple #[.float .f64 lo, .float .f64 hi]) (by simp [results, Tryz.results91, go_sem]) rfl ?_
  exact ⟨rfl, hZ8⟩
end Go.Proofs.YtonhpkigoplmaaaGreatDoor
namespace Go.Proofs.YtonhpkigoplmaaaGreatDoor
open Go.RowKit Go.Extern Ieee

end Go.Proofs.YtonhpkigoplmaaaGreatDoor
namespace Go.Proofs.YtonhpkigoplmaaaGreatDoor
open Go.RowKit Go.Extern Ieee

theorem posV_le (x : Bool × Nat × Int) : posV x (-1) ≤ posV x 1 := by
  obtain ⟨s, n, e⟩ := x
  unfold posV
  simp only
  by_cases h0 : n = 0
  · rw [if_pos h0, if_pos h0]; exact Int.le_refl _
  · rw [if_neg h0, if_neg h0]
    have h1 : endR s n e (-1) = rung n e + if s && inex n then 1 else 0 := by unfold endR; rw [offS_down]
    have h2 : endR s n e 1 = rung n e + if (!s) && inex n then 1 else 0 := by unfold endR; rw [offS_up]
    unfold sgI
    cases s
    · rw [if_neg Bool.false_ne_true, if_neg Bool.false_ne_true]
      apply clampR_mono
      rw [h1, h2]
      simp only [Bool.false_and, Bool.false_eq_true, if_false]
      split <;> omega
    · rw [if_pos rfl, if_pos rfl]
      have : clampR (endR true n e 1) ≤ clampR (endR true n e (-1)) := by
        apply clampR_mono
        rw [h1, h2]
        simp only [Bool.not_true, Bool.false_and, Bool.false_eq_true, if_false]
        split <;> omega
      omega

theorem make_iv {l h : Nat} (i : Iv l h) : makeN l h = (l, h, 0) := by
  have e1 : posW l = l := by
    unfold posW
    by_cases hz : l % 9223372036854775808 = 0
    · rw [if_pos hz]; have := i.lt1; have := i.z1; omega
    · rw [if_neg hz]
  have e2 : posW h = h := by
    unfold posW
    by_cases hz : h % 9223372036854775808 = 0
    · rw [if_pos hz]; have := i.lt2; have := i.z2; omega
    · rw [if_neg hz]
  have hl : lessW h l = false := by
    show lessT (plT h) (plT l) = false
    rw [lessT_pos i i.low]
    exact decide_eq_false (by have := i.le; omega)
  unfold makeN
  rw [if_neg (by rw [i.p1, i.p2]; simp), hl, if_neg Bool.false_ne_true, e1, e2]

/-- The float below, above a whole number. -/
def fl (n : Int) : Nat := wdP (posV (wholeN n) (-1))
end Go.Proofs.YtonhpkigoplmaaaGreatDoor
namespace Go.Proofs.YtonhpkigoplmaaaGreatDoor
open Go.RowKit Go.Extern Ieee

theorem bl_norm {m : Nat} (h1 : 4503599627370496 ≤ m) (h2 : m < 9007199254740992) : bl m = 53 := bl53 h1 h2

def quoM (n m : Nat) : Nat := 2 * (n * 2 ^ 113 / m) + if n * 2 ^ 113 % m = 0 then 0 else 1

theorem quoM_bounds {n m : Nat} (h1 : 4503599627370496 ≤ n) (h2 : n < 9007199254740992) (h3 : 4503599627370496 ≤ m) (h4 : m < 9007199254740992) : 114 ≤ bl (quoM n m) ∧ bl (quoM n m) ≤ 115 ∧ quoM n m ≠ 0 := by
  have a1 : 2 ^ 112 ≤ n * 2 ^ 113 / m := (Nat.le_div_iff_mul_le (by omega)).2 (by omega)
  have a2 : n * 2 ^ 113 / m < 2 ^ 114 := (Nat.div_lt_iff_lt_mul (by omega)).2 (by omega)
  have hlt : quoM n m < 2 ^ 115 := by unfold quoM; split <;> omega
  have hge : 2 ^ 113 ≤ quoM n m := by unfold quoM; split <;> omega
  refine ⟨?_, bl_le hlt, by omega⟩
  apply Decidable.byContradiction
  intro hc
  have h5 := lt_bl (quoM n m)
  have h6 : 2 ^ bl (quoM n m) ≤ 2 ^ 113 := Nat.pow_le_pow_right (by decide) (by omega)
  omega

theorem quoN_norm {s t : Bool} {n m : Nat} {e f : Int} (h1 : 4503599627370496 ≤ n) (h2 : n < 9007199254740992) (h3 : 4503599627370496 ≤ m) (h4 : m < 9007199254740992) : quoN (s, n, e) (t, m, f) = ((s != t), quoM n m, e - 113 - f - 1) := by
  have hb := (quoM_bounds h1 h2 h3 h4).2.2
  unfold quoN markN
  simp only
  rw [bl_norm h3 h4]
  have e1 : 2 * (n * 2 ^ (60 + 53) / m) + (if decide (n * 2 ^ (60 + 53) % m = 0) = true then 0 else 1) = quoM n m := by unfold quoM; simp
  rw [e1, decide_eq_true hb, Bool.and_true]
  rfl

end Go.Proofs.YtonhpkigoplmaaaGreatDoor
namespace Go.Proofs.YtonhpkigoplmaaaGreatDoor
open Go.RowKit Go.Extern Ieee

end Go.Proofs.YtonhpkigoplmaaaGreatDoor
namespace Go.Proofs.YtonhpkigoplmaaaGreatDoor
open Go.RowKit Go.Extern Ieee

theorem iv_leV {l h : Nat} (i : Iv l h) : leV (plT l) (plT h) := by
  refine (lessT_le (plT h) (plT l)).2 ?_
  rw [lessT_pos i i.low]
  exact decide_eq_false (by have := i.le; omega)

theorem leV_means2 {x y : Bool × Nat × Int} (h : leV x y) {e : Int} (h1 : e ≤ x.2.2) (h2 : e ≤ y.2.2) : sg x.1 (x.2.1 * 2 ^ (x.2.2 - e).toNat) ≤ sg y.1 (y.2.1 * 2 ^ (y.2.2 - e).toNat) := by
  unfold leV lvA lvB at h
  have hm := Int.mul_le_mul_of_nonneg_right h (Int.natCast_nonneg (2 ^ (min x.2.2 y.2.2 - e).toNat))
  rw [sg_mul, sg_mul, Nat.mul_assoc, Nat.mul_assoc, ← Nat.pow_add, ← Nat.pow_add] at hm
  rwa [show (x.2.2 - min x.2.2 y.2.2).toNat + (min x.2.2 y.2.2 - e).toNat = (x.2.2 - e).toNat by omega, show (y.2.2 - min x.2.2 y.2.2).toNat + (min x.2.2 y.2.2 - e).toNat = (y.2.2 - e).toNat by omega] at hm

end Go.Proofs.YtonhpkigoplmaaaGreatDoor
namespace Go.Proofs.YtonhpkigoplmaaaGreatDoor
open Go.RowKit Go.Extern Ieee

/-- A triple's number. -/
def valQ (x : Bool × Nat × Int) : Rat := (sg x.1 x.2.1 : Rat) * pw x.2.2

theorem cast_mul_pw (z : Int) (k : Nat) : ((z * ((2 ^ k : Nat) : Int) : Int) : Rat) = (z : Rat) * pw k := by
  rw [pw_nat, Rat.intCast_mul, Rat.intCast_natCast]

theorem val_means {e z : Int} {x : Bool × Nat × Int} (h : MeansT e z x) : valQ x = (z : Rat) * pw e := by
  have h1 := h (min e x.2.2) (by omega) (by omega)
  have h2 : ((sg x.1 (x.2.1 * 2 ^ (x.2.2 - min e x.2.2).toNat) : Int) : Rat) = ((z * ((2 ^ (e - min e x.2.2).toNat : Nat) : Int) : Int) : Rat) := by rw [h1]
  rw [cast_mul_pw, ← sg_mul, cast_mul_pw] at h2
  unfold valQ
  have e1 : pw x.2.2 = pw ((x.2.2 - min e x.2.2).toNat : Int) * pw (min e x.2.2) := by rw [← pw_add]; congr 1; omega
  have e2 : pw e = pw ((e - min e x.2.2).toNat : Int) * pw (min e x.2.2) := by rw [← pw_add]; congr 1; omega
  rw [e1, e2]
  grind

theorem val_le {x y : Bool × Nat × Int} (h : leV x y) : valQ x ≤ valQ y := by
  have h1 := leV_means2 h (e := min x.2.2 y.2.2) (by omega) (by omega)
  have h2 : ((sg x.1 (x.2.1 * 2 ^ (x.2.2 - min x.2.2 y.2.2).toNat) : Int) : Rat) ≤ ((sg y.1 (y.2.1 * 2 ^ (y.2.2 - min x.2.2 y.2.2).toNat) : Int) : Rat) := Rat.intCast_le_intCast.2 h1
  rw [← sg_mul, ← sg_mul, cast_mul_pw, cast_mul_pw] at h2
  have h3 := mul_le_r (Rat.le_of_lt (pw_pos (min x.2.2 y.2.2))) h2
  unfold valQ
  have e1 : pw x.2.2 = pw ((x.2.2 - min x.2.2 y.2.2).toNat : Int) * pw (min x.2.2 y.2.2) := by rw [← pw_add]; congr 1; omega
  have e2 : pw y.2.2 = pw ((y.2.2 - min x.2.2 y.2.2).toNat : Int) * pw (min x.2.2 y.2.2) := by rw [← pw_add]; congr 1; omega
  rw [e1, e2]
  grind

theorem val_sum (x y : Bool × Nat × Int) : valQ (sumT x y) = valQ x + valQ y := by
  have hx := means_low2 x (e := min x.2.2 y.2.2) (by omega)
  have hy := means_low2 y (e := min x.2.2 y.2.2) (by omega)
  have hs : MeansT _ _ (sumT x y) := sumN_means hx hy
  rw [val_means hx, val_means hy, val_means hs, Rat.intCast_add]
  grind

theorem val_neg (x : Bool × Nat × Int) : valQ (negT x) = - valQ x := by
  have hx := means_low2 x (e := x.2.2) (by omega)
  rw [val_means hx, val_means (means_neg hx), Rat.intCast_neg]
  grind

theorem val_prod (x y : Bool × Nat × Int) : valQ (prodN x y) = valQ x * valQ y := by
  have hx := means_low2 x (e := x.2.2) (by omega)
  have hy := means_low2 y (e := y.2.2) (by omega)
  obtain ⟨s, n, e⟩ := x
  obtain ⟨t, m, f⟩ := y
  unfold prodN valQ
  simp only
  rw [pw_add]
  have : ((sg ((s != t) && decide (n * m ≠ 0)) (n * m) : Int) : Rat) = (sg s n : Rat) * (sg t m : Rat) := by
    rw [← Rat.intCast_mul, ← sg_mul2]
    congr 1
    by_cases h0 : n * m = 0
    · rw [h0]; unfold sg; cases s <;> cases t <;> rfl
    · rw [decide_eq_true h0, Bool.and_true]
  rw [this]; grind

theorem val_zero {x : Bool × Nat × Int} (h : x.2.1 = 0) : valQ x = 0 := by
  unfold valQ
  rw [h]
  have : ((sg x.1 0 : Int) : Rat) = 0 := by unfold sg; split <;> rfl
  rw [this]; grind

/-- A triple that stands for a number: its rung is the number's. -/
def BR (x : Bool × Nat × Int) (q : Rat) : Prop := (x.2.1 = 0 ∧ q = 0) ∨ (x.2.1 ≠ 0 ∧ ∃ E, q = (if x.1 then -E else E) ∧ rvQ (rung x.2.1 x.2.2) ≤ E ∧ E ≤ rvQ (rung x.2.1 x.2.2 + if inex x.2.1 then 1 else 0))

theorem rv_rung {n : Nat} (e : Int) (h : n ≠ 0) : rvQ (rung n e) = (mf n : Rat) * pw (e + bl n - 53) ∧ rvQ (rung n e + 1) = ((mf n + 1 : Nat) : Rat) * pw (e + bl n - 53) := by
  obtain ⟨h1, h2⟩ := mf_bounds (Nat.pos_of_ne_zero h)
  have hr : rung n e = (e + bl n - 53 + 1074) * 4503599627370496 + (mf n : Int) := by unfold rung; omega
  constructor
  · rw [rv_at hr (by omega) (by omega), Rat.intCast_natCast]
  · rw [rv_next hr (by omega) (by omega)]
    congr 1

theorem rv_rung2 {n : Nat} (e : Int) (h : n ≠ 0) : rvQ (rung n e + if inex n then 1 else 0) = ((mf n + (if inex n then 1 else 0) : Nat) : Rat) * pw (e + bl n - 53) := by
  obtain ⟨h1, h2⟩ := rv_rung e h
  cases inex n
  · simp only [Bool.false_eq_true, if_false, Int.add_zero, Nat.add_zero]; exact h1
  · simp only [if_true]; exact h2

theorem cast_nat_pw (n k : Nat) : ((n * 2 ^ k : Nat) : Rat) = (n : Rat) * pw k := by
  rw [pw_nat, Rat.natCast_mul]

theorem br_exact (x : Bool × Nat × Int) : BR x (valQ x) := by
  by_cases h0 : x.2.1 = 0
  · left; exact ⟨h0, val_zero h0⟩
  · right
    refine ⟨h0, (x.2.1 : Rat) * pw x.2.2, ?_, ?_⟩
    · unfold valQ sg
      cases x.1
      · simp only [Bool.false_eq_true, if_false]; rw [Rat.intCast_natCast]
      · simp only [if_true]; rw [Rat.intCast_neg, Rat.intCast_natCast]; grind
    · obtain ⟨c1, c2⟩ := mf_cut x.2.1 x.2.2 (min x.2.2 (x.2.2 + bl x.2.1 - 53)) h0 (by omega) (by omega)
      have d1 : ((mf x.2.1 * 2 ^ (x.2.2 + bl x.2.1 - 53 - min x.2.2 (x.2.2 + bl x.2.1 - 53)).toNat : Nat) : Rat) ≤ ((x.2.1 * 2 ^ (x.2.2 - min x.2.2 (x.2.2 + bl x.2.1 - 53)).toNat : Nat) : Rat) := Rat.natCast_le_natCast.2 c1
      have d2 : ((x.2.1 * 2 ^ (x.2.2 - min x.2.2 (x.2.2 + bl x.2.1 - 53)).toNat : Nat) : Rat) ≤ (((mf x.2.1 + if inex x.2.1 then 1 else 0) * 2 ^ (x.2.2 + bl x.2.1 - 53 - min x.2.2 (x.2.2 + bl x.2.1 - 53)).toNat : Nat) : Rat) := Rat.natCast_le_natCast.2 c2
      rw [cast_nat_pw, cast_nat_pw] at d1 d2
      rw [(rv_rung _ h0).1, rv_rung2 _ h0]
      generalize hc : min x.2.2 (x.2.2 + bl x.2.1 - 53) = c at *
      have e1 : pw x.2.2 = pw ((x.2.2 - c).toNat : Int) * pw c := by rw [← pw_add]; congr 1; omega
      have e2 : pw (x.2.2 + bl x.2.1 - 53) = pw ((x.2.2 + bl x.2.1 - 53 - c).toNat : Int) * pw c := by rw [← pw_add]; congr 1; omega
      rw [e1, e2]
      have k1 := mul_le_r (Rat.le_of_lt (pw_pos c)) d1
      have k2 := mul_le_r (Rat.le_of_lt (pw_pos c)) d2
      constructor <;> grind

theorem br_neg {x : Bool × Nat × Int} {q : Rat} (h : BR x q) : BR (negT x) (-q) := by
  rcases h with ⟨h0, rfl⟩ | ⟨h0, E, rfl, h1, h2⟩
  · left; exact ⟨h0, by grind⟩
  · right
    refine ⟨h0, E, ?_, h1, h2⟩
    show -(if x.1 = true then -E else E) = if negS x.1 x.2.1 = true then -E else E
    unfold negS
    rw [decide_eq_true h0]
    cases x.1 <;> simp

theorem le_cancel {a b c : Rat} (hc : 0 < c) (h : a * c ≤ b * c) : a ≤ b := by
  apply Decidable.byContradiction
  intro hn
  have := Rat.mul_pos (show 0 < a - b by grind) hc
  grind

/-- A quotient's mark, cut to even numbers. -/
theorem quo_cut {X m N j : Nat} (hm : 0 < m) (hN : N = 2 * (X / m) + if X % m = 0 then 0 else 1) (hj : 0 < j) : N / 2 ^ j * 2 ^ j * m ≤ 2 * X ∧ 2 * X ≤ (N / 2 ^ j + if decide (N % 2 ^ j ≠ 0) then 1 else 0) * 2 ^ j * m := by
  have hd := Nat.div_add_mod X m
  have hl := Nat.mod_lt X hm
  have hd2 := Nat.div_add_mod N (2 ^ j)
  have hl2 := Nat.mod_lt N (Nat.two_pow_pos j)
  have hk : 2 ^ j = 2 * 2 ^ (j - 1) := by rw [show j = (j - 1) + 1 by omega, Nat.pow_succ, Nat.mul_comm]; rfl
  have hz : N % 2 ^ j = 0 → X % m = 0 := by
    intro h0
    apply Decidable.byContradiction
    intro hc
    rw [if_neg hc] at hN
    rw [h0, hk, Nat.add_zero, Nat.mul_assoc] at hd2
    omega
  rw [hk] at hd2 hl2 hz ⊢
  generalize 2 ^ (j - 1) = g at *
  clear hk
  generalize hc : N / (2 * g) = c at *
  generalize X / m = a at *
  have e1 : 2 * g * c = 2 * (c * g) := by rw [Nat.mul_assoc, Nat.mul_comm g]
  have e2 : c * (2 * g) * m = 2 * (c * g * m) := by rw [Nat.mul_left_comm c, Nat.mul_assoc]
  have e3 : (c + 1) * (2 * g) * m = 2 * ((c + 1) * g * m) := by rw [Nat.mul_left_comm (c + 1), Nat.mul_assoc]
  have e4 : (c + 1) * g = c * g + g := by rw [Nat.add_mul, Nat.one_mul]
  have e5 : a * m = m * a := Nat.mul_comm _ _
  have e6 : (a + 1) * m = m * a + m := by rw [Nat.add_mul, Nat.one_mul, Nat.mul_comm]
  constructor
  · rw [e2]
    have h1 : c * g ≤ a := by
      split at hN <;> omega
    have h2 := Nat.mul_le_mul_right m h1
    omega
  · by_cases h0 : N % (2 * g) = 0
    · rw [decide_eq_false (by omega)]
      simp only [Bool.false_eq_true, if_false, Nat.add_zero]
      have hx := hz h0
      rw [if_pos hx] at hN
      rw [e2]
      have h1 : a ≤ c * g := by omega
      have h2 := Nat.mul_le_mul_right m h1
      omega
    · rw [decide_eq_true h0, if_pos rfl, e3]
      have h1 : a + 1 ≤ (c + 1) * g := by
        split at hN <;> omega
      have h2 := Nat.mul_le_mul_right m h1
      omega

theorem quo_rat {n m M0 M1 P K H pe pf : Rat} (hm : 0 < m) (hpf : 0 < pf) (hpe : 0 < pe) (hH : 0 < H) (e1 : P * (pf * (2 * H)) = K * pe) (low : M0 * K * m ≤ 2 * (n * H)) (high : 2 * (n * H) ≤ M1 * K * m) : M0 * P ≤ n * pe / (m * pf) ∧ n * pe / (m * pf) ≤ M1 * P := by
  have hpos : 0 < m * pf * (2 * H) := Rat.mul_pos (Rat.mul_pos hm hpf) (by grind)
  have hq : n * pe / (m * pf) * (m * pf) = n * pe := by
    have := Rat.mul_pos hm hpf
    grind
  generalize n * pe / (m * pf) = q at *
  have R : q * (m * pf * (2 * H)) = 2 * (n * H) * pe := by
    rw [show q * (m * pf * (2 * H)) = q * (m * pf) * (2 * H) by grind, hq]; grind
  have L : ∀ M : Rat, M * P * (m * pf * (2 * H)) = M * K * m * pe := by
    intro M
    rw [show M * P * (m * pf * (2 * H)) = M * m * (P * (pf * (2 * H))) by grind, e1]; grind
  constructor
  · refine le_cancel hpos ?_
    rw [L, R]
    exact mul_le_r (Rat.le_of_lt hpe) low
  · refine le_cancel hpos ?_
    rw [L, R]
    exact mul_le_r (Rat.le_of_lt hpe) high

/-- A quotient of two mantissas, its power of two unspoken. -/
theorem quo_any {n m h N : Nat} {e f : Int} (hm : 0 < m) (hN : N = 2 * (n * 2 ^ h / m) + if n * 2 ^ h % m = 0 then 0 else 1) (hb : 54 ≤ bl N) : rvQ (rung N (e - h - f - 1)) ≤ (n : Rat) * pw e / ((m : Rat) * pw f) ∧ (n : Rat) * pw e / ((m : Rat) * pw f) ≤ rvQ (rung N (e - h - f - 1) + if inex N then 1 else 0) := by
  have b3 : N ≠ 0 := by
    rintro rfl
    have : bl 0 = 0 := rfl
    omega
  obtain ⟨low, high⟩ := quo_cut (j := bl N - 53) hm hN (by omega)
  have hmf : mf N = N / 2 ^ (bl N - 53) := by unfold mf; rw [if_neg (by omega)]
  have hix : inex N = decide (N % 2 ^ (bl N - 53) ≠ 0) := by unfold inex; simp [show 53 < bl N by omega]
  rw [← hmf] at low
  rw [← hmf, ← hix] at high
  rw [(rv_rung _ b3).1, rv_rung2 _ b3]
  have low' : ((mf N * 2 ^ (bl N - 53) * m : Nat) : Rat) ≤ ((2 * (n * 2 ^ h) : Nat) : Rat) := Rat.natCast_le_natCast.2 low
  have high' : ((2 * (n * 2 ^ h) : Nat) : Rat) ≤ (((mf N + if inex N then 1 else 0) * 2 ^ (bl N - 53) * m : Nat) : Rat) := Rat.natCast_le_natCast.2 high
  rw [Rat.natCast_mul, cast_nat_pw, Rat.natCast_mul, cast_nat_pw] at low' high'
  refine quo_rat (Rat.natCast_pos.2 hm) (pw_pos f) (pw_pos e) (pw_pos (h : Int)) ?_ low' high'
  rw [← pw_one, ← pw_add, ← pw_add, ← pw_add, ← pw_add]; congr 1; omega

/-- Quotients of plain floats. -/
theorem br_quo {x y : Bool × Nat × Int} (hx : Plnum x) (hy : Plnum y) (hy0 : y.2.1 ≠ 0) : BR (quoN x y) (valQ x / valQ y) := by
  obtain ⟨s, n, e⟩ := x
  obtain ⟨t, m, f⟩ := y
  rcases hy with hy | hy
  · cases hy; exact absurd rfl hy0
  simp only at hy hy0
  rcases hx with hx | hx
  · cases hx
    left
    constructor
    · unfold quoN markN
      simp
    · rw [val_zero rfl]; grind
  · simp only at hx
    rw [quoN_norm hx.1 hx.2.1 hy.1 hy.2.1]
    obtain ⟨b1, b2, b3⟩ := quoM_bounds hx.1 hx.2.1 hy.1 hy.2.1
    right
    refine ⟨b3, (n : Rat) * pw e / ((m : Rat) * pw f), ?_, quo_any (h := 113) (by omega) rfl (show 54 ≤ bl (quoM n m) by omega)⟩
    unfold valQ sg
    simp only
    have hm : (m : Rat) ≠ 0 := by
      have : (0 : Rat) < (m : Rat) := Rat.natCast_pos.2 (by omega)
      grind
    have hp := pw_pos f
    clear b1 b2 b3 hx hy
    cases s <;> cases t <;> simp [Rat.intCast_neg, Rat.intCast_natCast] <;> grind
end Go.Proofs.YtonhpkigoplmaaaGreatDoor
namespace Go.Proofs.YtonhpkigoplmaaaGreatDoor
open Go.RowKit

end Go.Proofs.YtonhpkigoplmaaaGreatDoor
namespace Go.Proofs.YtonhpkigoplmaaaGreatDoor
open Go.RowKit

end Go.Proofs.YtonhpkigoplmaaaGreatDoor
namespace Go.Proofs.YtonhpkigoplmaaaGreatDoor
open Go.RowKit Go.Extern Ieee

end Go.Proofs.YtonhpkigoplmaaaGreatDoor
namespace Go.Proofs.YtonhpkigoplmaaaGreatDoor
open Go.RowKit Go.Extern Ieee

end Go.Proofs.YtonhpkigoplmaaaGreatDoor
namespace Go.Proofs.YtonhpkigoplmaaaGreatDoor
open Go.RowKit

theorem lawBox_any (x y : Int) (w : World) : Calls Tryz.prog 26 #[.agg #[.int .u64 x, .int .u64 y]] w fun e w' => e = .returned (.agg #[.int .u64 x, .int .u64 y]) ∧ Below w.heap.size w w' := by
  go_enter Tryz.func26, Tryz.ntmps26
  go_wp2
  exact bodyPost_ret (v := .agg #[.int .u64 x, .int .u64 y]) (by simp [results, Tryz.results26, go_sem]) rfl ⟨rfl, ((Below.refl _ _).alloc (Nat.le_refl _) _).alloc (by simp) _⟩

theorem same_eq (x y : Int) (w : World) : Calls Tryz.prog 28 #[.agg #[.int .u64 x, .int .u64 y], .agg #[.int .u64 x, .int .u64 y]] w fun e w' => e = .returned (.bool true) ∧ Below w.heap.size w w' := by
  go_enter Tryz.func28, Tryz.ntmps28
  go_wp2
  go_ret
  exact ⟨rfl, ((Below.refl _ _).alloc (Nat.le_refl _) _).alloc (by simp) _⟩

theorem blk9 {W : World} {g : Nat} {a0 a1 a2 a3 a4 a5 a6 a7 a8 : Value} {t : TypeId} (h : W.heap[g]? = some (.cells #[a0, a1, a2, a3, a4, a5, a6, a7, a8] t (0, 0))) :
    W.cell? ⟨g, 0, none⟩ = some a0 ∧ W.cell? ⟨g, 1, none⟩ = some a1 ∧ W.cell? ⟨g, 2, none⟩ = some a2 ∧ W.cell? ⟨g, 3, none⟩ = some a3 ∧ W.cell? ⟨g, 4, none⟩ = some a4 ∧ W.cell? ⟨g, 5, none⟩ = some a5 ∧ W.cell? ⟨g, 6, none⟩ = some a6 ∧ W.cell? ⟨g, 7, none⟩ = some a7 ∧ W.cell? ⟨g, 8, none⟩ = some a8 :=
  ⟨by simp [World.cell?, h], by simp [World.cell?, h], by simp [World.cell?, h], by simp [World.cell?, h], by simp [World.cell?, h], by simp [World.cell?, h], by simp [World.cell?, h], by simp [World.cell?, h], by simp [World.cell?, h]⟩

end Go.Proofs.YtonhpkigoplmaaaGreatDoor
namespace Go.Proofs.YtonhpkigoplmaaaGreatDoor
open Go.RowKit

/-- A script's steps as they lie in memory. -/
structure Script where
  k : Nat → Int
  a : Nat → Int
  b : Nat → Int
  s : Nat → ByteArray
  xl : Nat → Nat
  xh : Nat → Nat
  yl : Nat → Nat
  yh : Nat → Nat
  po : Nat → Option Addr
  pl : Nat → Nat
  pc : Nat → Nat

/-- The i-th step as a value. -/
def Script.val (z : Script) (i : Nat) : Value := .agg #[.int .i64 (z.k i), .int .i64 (z.a i), .int .i64 (z.b i), .string (z.s i), .int .u64 (z.xl i : Int), .int .u64 (z.xh i : Int), .int .u64 (z.yl i : Int), .int .u64 (z.yh i : Int), .slice (z.po i) (z.pl i) (z.pc i)]

/-- n steps lie from an address on. -/
def Script.at (z : Script) (w : World) (g off n : Nat) : Prop :=
  ∀ i, i < n → w.cell? ⟨g, off + i * 9, none⟩ = some (.int .i64 (z.k i)) ∧ w.cell? ⟨g, off + i * 9 + 1, none⟩ = some (.int .i64 (z.a i)) ∧ w.cell? ⟨g, off + i * 9 + 2, none⟩ = some (.int .i64 (z.b i)) ∧ w.cell? ⟨g, off + i * 9 + 3, none⟩ = some (.string (z.s i)) ∧ w.cell? ⟨g, off + i * 9 + 4, none⟩ = some (.int .u64 (z.xl i : Int)) ∧ w.cell? ⟨g, off + i * 9 + 5, none⟩ = some (.int .u64 (z.xh i : Int)) ∧ w.cell? ⟨g, off + i * 9 + 6, none⟩ = some (.int .u64 (z.yl i : Int)) ∧ w.cell? ⟨g, off + i * 9 + 7, none⟩ = some (.int .u64 (z.yh i : Int)) ∧ w.cell? ⟨g, off + i * 9 + 8, none⟩ = some (.slice (z.po i) (z.pl i) (z.pc i))

end Go.Proofs.YtonhpkigoplmaaaGreatDoor
