/-
  FltF, SumM, SumN, RndP, RoundZ, RoundY, WholeF.
-/
import Derived.Test.YtonhpkigoplmaaaGreatDoorP05
import Derived.Laws.FloatArith
namespace Go.Proofs.YtonhpkigoplmaaaGreatDoor
open Go.RowKit Go.Extern Ieee
attribute [local go_sem] run_store_float

theorem sumF_any (x y near taken t1 t2 t3 q lo hi : Nat) (w : World) (h1 : double.add x y = some near) (h2 : double.sub near x = some taken) (h3 : double.sub near taken = some t1) (h4 : double.sub x t1 = some t2) (h5 : double.sub y taken = some t3) (h6 : double.add t2 t3 = some q)
    (hA : ∀ w, Calls Tryz.prog 141 #[.float .f64 near, .float .f64 q] w fun e w' => e = .returned (.agg #[.float .f64 lo, .float .f64 hi]) ∧ Below w.heap.size w w') :
    Calls Tryz.prog 89 #[.float .f64 x, .float .f64 y] w fun e w' => e = .returned (.agg #[.float .f64 lo, .float .f64 hi]) ∧ Below w.heap.size w w' := by
  have g1 : ∀ w, (binOp .add 65 (.float .f64 x) (.float .f64 y)).run Tryz.prog w = .ok (.float .f64 near) w := fun w => run_float_arith w .add _ .f64 x y near h1
  have g2 : ∀ w, (binOp .sub 65 (.float .f64 near) (.float .f64 x)).run Tryz.prog w = .ok (.float .f64 taken) w := fun w => run_float_arith w .sub _ .f64 near x taken h2
  have g3 : ∀ w, (binOp .sub 65 (.float .f64 near) (.float .f64 taken)).run Tryz.prog w = .ok (.float .f64 t1) w := fun w => run_float_arith w .sub _ .f64 near taken t1 h3
  have g4 : ∀ w, (binOp .sub 65 (.float .f64 x) (.float .f64 t1)).run Tryz.prog w = .ok (.float .f64 t2) w := fun w => run_float_arith w .sub _ .f64 x t1 t2 h4
  have g5 : ∀ w, (binOp .sub 65 (.float .f64 y) (.float .f64 taken)).run Tryz.prog w = .ok (.float .f64 t3) w := fun w => run_float_arith w .sub _ .f64 y taken t3 h5
  have g6 : ∀ w, (binOp .add 65 (.float .f64 t2) (.float .f64 t3)).run Tryz.prog w = .ok (.float .f64 q) w := fun w => run_float_arith w .add _ .f64 t2 t3 q h6
  have HA : Hid (∀ w, Calls Tryz.prog 141 #[.float .f64 near, .float .f64 q] w fun e w' => e = .returned (.agg #[.float .f64 lo, .float .f64 hi]) ∧ Below w.heap.size w w') := hA
  clear h1 h2 h3 h4 h5 h6 hA
  go_enter Tryz.func89, Tryz.ntmps89
  go_wp2_with fail
  refine Calls.mono (HA.out _) ?_
  rintro e w1 ⟨rfl, hb1⟩
  have B0 := blk_below (blk_new w _) hb1
  obtain ⟨k0, k1, k2, k3⟩ := blk2 B0
  have HB1 : Hid (Below w.heap.size w w1) := ((Below.refl _ _).alloc (Nat.le_refl _) _).trans (hb1.mono (by simp))
  clear hb1 B0 HA
  go_wp2
  refine bodyPost_ret (v := .agg #[.float .f64 lo, .float .f64 hi]) (by simp [results, Tryz.results89, go_sem, k0, k1]) rfl ?_
  exact ⟨rfl, (HB1.out.setCell (by simp) _).setCell (by simp) _⟩
end Go.Proofs.YtonhpkigoplmaaaGreatDoor
namespace Go.Proofs.YtonhpkigoplmaaaGreatDoor
open Go.RowKit Go.Extern Ieee

theorem bl_shift {n : Nat} (h : n ≠ 0) (k : Nat) : bl (n * 2 ^ k) = bl n + k := by
  obtain ⟨b1, b2, b3⟩ := bl_bounds (Nat.pos_of_ne_zero h)
  refine bl_of ?_ ?_ (by omega)
  · rw [show bl n + k - 1 = (bl n - 1) + k by omega, Nat.pow_add]
    exact Nat.mul_le_mul_right _ b1
  · rw [Nat.pow_add]
    exact Nat.mul_lt_mul_of_pos_right b2 (Nat.two_pow_pos _)

theorem mul_pow_div (n a b : Nat) : n * 2 ^ (a + b) / 2 ^ b = n * 2 ^ a := by
  rw [Nat.pow_add, ← Nat.mul_assoc, Nat.mul_div_cancel _ (Nat.two_pow_pos _)]

theorem mf_shift {n : Nat} (h : n ≠ 0) (k : Nat) : mf (n * 2 ^ k) = mf n := by
  unfold mf
  rw [bl_shift h]
  by_cases h1 : bl n + k ≤ 53
  · rw [if_pos h1, if_pos (by omega), Nat.mul_assoc, ← Nat.pow_add]; congr 2; omega
  · rw [if_neg h1]
    by_cases h2 : bl n ≤ 53
    · rw [if_pos h2]
      have := mul_pow_div n (53 - bl n) (bl n + k - 53)
      rwa [show 53 - bl n + (bl n + k - 53) = k by omega] at this
    · rw [if_neg h2, show bl n + k - 53 = (bl n - 53) + k by omega, Nat.pow_add, Nat.mul_div_mul_right _ _ (Nat.two_pow_pos _)]

theorem nup_shift {n : Nat} (h : n ≠ 0) (k : Nat) : nup (n * 2 ^ k) = nup n := by
  unfold nup
  rw [bl_shift h]
  by_cases h2 : bl n ≤ 53
  · rw [decide_eq_false (show ¬ 53 < bl n by omega), Bool.false_and]
    by_cases h1 : bl n + k ≤ 53
    · rw [decide_eq_false (by omega), Bool.false_and]
    · have hz : n * 2 ^ k % 2 ^ (bl n + k - 53) = 0 := by
        rw [show k = (53 - bl n) + (bl n + k - 53) by omega, Nat.pow_add, ← Nat.mul_assoc]
        rw [show bl n + (53 - bl n + (bl n + k - 53)) - 53 = bl n + k - 53 by omega]
        exact Nat.mul_mod_left _ _
      rw [hz]
      have hp := Nat.two_pow_pos (bl n + k - 53)
      have e1 : decide (2 ^ (bl n + k - 53) < 2 * 0) = false := decide_eq_false (by omega)
      have e2 : (2 ^ (bl n + k - 53) == 2 * 0) = false := by rw [beq_eq_false_iff_ne]; omega
      rw [e1, e2]; simp
  · rw [decide_eq_true (show 53 < bl n by omega), decide_eq_true (show 53 < bl n + k by omega)]
    rw [show bl n + k - 53 = (bl n - 53) + k by omega, Nat.pow_add, Nat.mul_div_mul_right _ _ (Nat.two_pow_pos _), Nat.mul_mod_mul_right]
    generalize n % 2 ^ (bl n - 53) = r
    generalize 2 ^ (bl n - 53) = g
    have hp := Nat.two_pow_pos k
    generalize 2 ^ k = t at *
    have e1 : decide (g * t < 2 * (r * t)) = decide (g < 2 * r) := by
      rw [← Nat.mul_assoc]; exact decide_eq_decide.2 (Nat.mul_lt_mul_right hp)
    have e2 : (g * t == 2 * (r * t)) = (g == 2 * r) := by
      rw [← Nat.mul_assoc, Bool.eq_iff_iff, beq_iff_eq, beq_iff_eq]; exact Nat.mul_right_cancel_iff hp
    rw [e1, e2]

theorem inex_shift {n : Nat} (h : n ≠ 0) (k : Nat) (hi : inex n = false) : inex (n * 2 ^ k) = false := by
  unfold inex at *
  rw [bl_shift h]
  rw [decide_eq_false_iff_not] at hi ⊢
  rintro ⟨h1, h2⟩
  apply h2
  by_cases hb : bl n ≤ 53
  · rw [show k = (53 - bl n) + (bl n + k - 53) by omega, Nat.pow_add, ← Nat.mul_assoc]
    rw [show bl n + (53 - bl n + (bl n + k - 53)) - 53 = bl n + k - 53 by omega]
    exact Nat.mul_mod_left _ _
  · rw [show bl n + k - 53 = (bl n - 53) + k by omega, Nat.pow_add, Nat.mul_mod_mul_right]
    have : n % 2 ^ (bl n - 53) = 0 := by
      apply Decidable.byContradiction
      intro hc
      exact hi ⟨by omega, hc⟩
    rw [this, Nat.zero_mul]

theorem nearest_shift (s : Bool) {n : Nat} {e : Int} (k : Nat) (h0 : n ≠ 0) (h1 : -1021 ≤ e + k + bl n) (h2 : e + k + bl n ≤ 1023) : double.nearest s (n * 2 ^ k) e = double.nearest s n (e + k) := by
  have hn : n * 2 ^ k ≠ 0 := Nat.mul_ne_zero h0 (Nat.pos_iff_ne_zero.1 (Nat.two_pow_pos k))
  have hb := bl_shift h0 k
  rw [nearest_rung s hn (by omega) (by omega), nearest_rung s h0 h1 h2, nup_shift h0]
  have : rung (n * 2 ^ k) e = rung n (e + k) := by
    unfold rung
    rw [mf_shift h0, hb]
    congr 2
    omega
  rw [this]

/-- One value, one nearest float. -/
theorem nearest_val (s : Bool) {n m : Nat} {e f c : Int} (hc1 : c ≤ e) (hc2 : c ≤ f) (hn : n ≠ 0) (h1 : -1021 ≤ e + bl n) (h2 : e + bl n ≤ 1023) (hv : n * 2 ^ (e - c).toNat = m * 2 ^ (f - c).toNat) : double.nearest s n e = double.nearest s m f := by
  have hm : m ≠ 0 := by
    rintro rfl
    rw [Nat.zero_mul] at hv
    rcases Nat.mul_eq_zero.1 hv with h | h
    · exact hn h
    · exact Nat.pos_iff_ne_zero.1 (Nat.two_pow_pos _) h
  have e1 := bl_shift hn (e - c).toNat
  have e2 := bl_shift hm (f - c).toNat
  rw [hv] at e1
  have a := nearest_shift s (n := n) (e := c) (e - c).toNat hn (by omega) (by omega)
  have b := nearest_shift s (n := m) (e := c) (f - c).toNat hm (by omega) (by omega)
  rw [show c + ((e - c).toNat : Int) = e by omega] at a
  rw [show c + ((f - c).toNat : Int) = f by omega] at b
  rw [← a, ← b, hv]
end Go.Proofs.YtonhpkigoplmaaaGreatDoor
namespace Go.Proofs.YtonhpkigoplmaaaGreatDoor
open Go.RowKit Go.Extern Ieee

/-- The float nearest to z * 2 ^ e. -/
def fd (e z : Int) : Nat := double.nearest (decide (z < 0)) z.natAbs e

/-- z * 2 ^ e is neither too small nor too great. -/
def Fits (e z : Int) : Prop := -1022 ≤ e ∧ e + bl z.natAbs ≤ 1023

/-- z * 2 ^ e is a float. -/
def Rep (z : Int) : Prop := inex z.natAbs = false

theorem fd_zero (e : Int) : fd e 0 = 0 := rfl

theorem nup_rep {n : Nat} (h : inex n = false) : nup n = false := by
  unfold inex at h
  unfold nup
  rw [decide_eq_false_iff_not] at h
  by_cases hb : 53 < bl n
  · have hz : n % 2 ^ (bl n - 53) = 0 := by
      apply Decidable.byContradiction
      intro hc
      exact h ⟨hb, hc⟩
    rw [hz]
    have hp := Nat.two_pow_pos (bl n - 53)
    have e1 : decide (2 ^ (bl n - 53) < 2 * 0) = false := decide_eq_false (by omega)
    have e2 : (2 ^ (bl n - 53) == 2 * 0) = false := by rw [beq_eq_false_iff_ne]; omega
    rw [e1, e2]; simp
  · rw [decide_eq_false hb, Bool.false_and]

theorem read_wd_norm {s : Bool} {T m : Nat} (h1 : 4503599627370496 ≤ m) (h2 : m < 9007199254740992) (hT : T ≤ 2044) : double.read (wd s (T * 4503599627370496 + m)) = .number s m ((T : Int) - 1074) := by
  have hsw : double.signWeight = 9223372036854775808 := rfl
  have hbn : double.binade = 4503599627370496 := rfl
  have hir : double.infRung = 9218868437227405312 := rfl
  have hlp : double.leastPlace = -1074 := rfl
  have hm : wd s (T * 4503599627370496 + m) % 9223372036854775808 = T * 4503599627370496 + m := by unfold wd; split <;> omega
  have hd : (wd s (T * 4503599627370496 + m) / 9223372036854775808 % 2 == 1) = s := by
    unfold wd
    cases s
    · rw [if_neg Bool.false_ne_true, show (T * 4503599627370496 + m + 0) / 9223372036854775808 % 2 = 0 by omega]; rfl
    · rw [if_pos rfl, show (T * 4503599627370496 + m + 9223372036854775808) / 9223372036854775808 % 2 = 1 by omega]; rfl
  unfold Format.read
  simp only [hsw, hbn, hir, hlp, hm, hd]
  rw [if_neg (by omega), if_pos (by omega)]
  congr 1
  · omega
  · omega

theorem fd_wd {e z : Int} (h0 : z ≠ 0) (hf : Fits e z) : fd e z = wd (decide (z < 0)) ((rung z.natAbs e + if nup z.natAbs then 1 else 0).toNat) := by
  have hn : z.natAbs ≠ 0 := by omega
  have hb := bl_pos (Nat.pos_of_ne_zero hn)
  have := hf.1
  have := hf.2
  unfold fd
  rw [nearest_rung _ hn (by omega) (by omega)]
  unfold wd
  cases decide (z < 0) <;> rfl

/-- A datum stands for z * 2 ^ e. -/
def Means (e z : Int) (s : Bool) (m : Nat) (p : Int) : Prop := ∀ c, c ≤ p → c ≤ e → sg s (m * 2 ^ (p - c).toNat) = z * ((2 ^ (e - c).toNat : Nat) : Int)

theorem read_fd {e z : Int} (hf : Fits e z) (hr : Rep z) : ∃ s m p, double.read (fd e z) = .number s m p ∧ Means e z s m p ∧ (z = 0 → s = false) ∧ (z ≠ 0 → s = decide (z < 0)) := by
  by_cases h0 : z = 0
  · subst h0
    refine ⟨false, 0, -1074, by rw [fd_zero]; rfl, ?_, fun _ => rfl, fun h => absurd rfl h⟩
    intro c _ _
    rw [Nat.zero_mul, Int.zero_mul]; rfl
  · have hn : z.natAbs ≠ 0 := by omega
    have hb := bl_pos (Nat.pos_of_ne_zero hn)
    have f1 := hf.1
    have f2 := hf.2
    obtain ⟨T, hT⟩ : ∃ T : Nat, e + bl z.natAbs + 1021 = (T : Int) := ⟨(e + bl z.natAbs + 1021).toNat, by omega⟩
    obtain ⟨m1, m2⟩ := mf_bounds (Nat.pos_of_ne_zero hn)
    have hfd : fd e z = wd (decide (z < 0)) (T * 4503599627370496 + mf z.natAbs) := by
      rw [fd_wd h0 hf, nup_rep hr]
      congr 1
      unfold rung
      rw [hT]
      have : (T : Int) * 4503599627370496 + (mf z.natAbs : Int) + (if false = true then 1 else 0) = ((T * 4503599627370496 + mf z.natAbs : Nat) : Int) := by
        rw [if_neg Bool.false_ne_true, Int.add_zero, Int.natCast_add, Int.natCast_mul]; rfl
      rw [this, Int.toNat_natCast]
    refine ⟨decide (z < 0), mf z.natAbs, (T : Int) - 1074, ?_, ?_, fun h => absurd h h0, fun _ => rfl⟩
    · rw [hfd]; exact read_wd_norm m1 m2 (by omega)
    · intro c hc1 hc2
      have hmag : mf z.natAbs * 2 ^ ((T : Int) - 1074 - c).toNat = z.natAbs * 2 ^ (e - c).toNat := by
        have hr' : inex z.natAbs = false := hr
        unfold inex at hr'
        rw [decide_eq_false_iff_not] at hr'
        unfold mf
        by_cases hb53 : bl z.natAbs ≤ 53
        · rw [if_pos hb53, Nat.mul_assoc, ← Nat.pow_add]; congr 2; omega
        · rw [if_neg hb53]
          have hz : z.natAbs % 2 ^ (bl z.natAbs - 53) = 0 := by
            apply Decidable.byContradiction
            intro hc
            exact hr' ⟨by omega, hc⟩
          have hd := Nat.div_add_mod z.natAbs (2 ^ (bl z.natAbs - 53))
          rw [hz, Nat.add_zero, Nat.mul_comm] at hd
          have : z.natAbs * 2 ^ (e - c).toNat = z.natAbs / 2 ^ (bl z.natAbs - 53) * 2 ^ (bl z.natAbs - 53) * 2 ^ (e - c).toNat := by rw [hd]
          rw [this, Nat.mul_assoc, ← Nat.pow_add]; congr 2; omega
      rw [hmag]
      unfold sg
      by_cases hz : z < 0
      · rw [decide_eq_true hz, if_pos rfl, Int.natCast_mul, show ((z.natAbs : Nat) : Int) = -z by omega, Int.neg_mul, Int.neg_neg]
      · rw [decide_eq_false hz, if_neg Bool.false_ne_true, Int.natCast_mul, show ((z.natAbs : Nat) : Int) = z by omega]

theorem Means.opp {e z : Int} {s : Bool} {m : Nat} {p : Int} (h : Means e z s m p) : Means e (-z) (!s) m p := by
  intro c h1 h2
  have := h c h1 h2
  rw [Int.neg_mul, ← this]
  unfold sg
  cases s
  · rfl
  · simp

theorem sg_natAbs {x : Int} {n : Nat} {s : Bool} (h : sg s n = x) : n = x.natAbs := by
  unfold sg at h
  cases s
  · rw [if_neg Bool.false_ne_true] at h; omega
  · rw [if_pos rfl] at h; omega

theorem sum_means {e x y : Int} {s t : Bool} {m n : Nat} {p q : Int} (hx : Means e x s m p) (hy : Means e y t n q) (hf : Fits e (x + y)) (hz : x + y = 0 → (s && t) = false) :
    (Datum.sum (.number s m p) (.number t n q)).map double.write = some (fd e (x + y)) := by
  simp only [Datum.sum, Option.map_some, Format.write, signed_eq]
  congr 1
  generalize hT : sg s (m * 2 ^ (p - min p q).toNat) + sg t (n * 2 ^ (q - min p q).toNat) = T
  have key : T * ((2 ^ (min p q - min (min p q) e).toNat : Nat) : Int) = (x + y) * ((2 ^ (e - min (min p q) e).toNat : Nat) : Int) := by
    have a := hx (min (min p q) e) (by omega) (by omega)
    have b := hy (min (min p q) e) (by omega) (by omega)
    rw [Int.add_mul, ← a, ← b, ← hT, Int.add_mul]
    have sgm : ∀ (s : Bool) (n k : Nat), sg s n * (k : Int) = sg s (n * k) := by
      intro s n k
      unfold sg
      cases s
      · rw [if_neg Bool.false_ne_true, if_neg Bool.false_ne_true, Int.natCast_mul]
      · rw [if_pos rfl, if_pos rfl, Int.natCast_mul, Int.neg_mul]
    rw [sgm, sgm, Nat.mul_assoc, Nat.mul_assoc, ← Nat.pow_add, ← Nat.pow_add]
    congr 4 <;> congr 1 <;> omega
  have hp1 : (0 : Int) < ((2 ^ (min p q - min (min p q) e).toNat : Nat) : Int) := by exact_mod_cast Nat.two_pow_pos _
  have hp2 : (0 : Int) < ((2 ^ (e - min (min p q) e).toNat : Nat) : Int) := by exact_mod_cast Nat.two_pow_pos _
  by_cases h0 : x + y = 0
  · have hT0 : T = 0 := by
      rw [h0, Int.zero_mul] at key
      rcases Int.mul_eq_zero.1 key with h | h
      · exact h
      · omega
    rw [if_pos hT0, hz h0, hT0, h0, fd_zero]
    rfl
  · have hT0 : T ≠ 0 := by
      rintro rfl
      rw [Int.zero_mul] at key
      rcases Int.mul_eq_zero.1 key.symm with h | h
      · exact h0 h
      · omega
    have hsgn : decide (T < 0) = decide (x + y < 0) := by
      apply decide_eq_decide.2
      constructor
      · intro h
        have : T * _ < 0 := Int.mul_neg_of_neg_of_pos h hp1
        rw [key] at this
        rcases (show x + y < 0 ∨ 0 ≤ x + y by omega) with h' | h'
        · exact h'
        · have := Int.mul_nonneg h' (Int.le_of_lt hp2); omega
      · intro h
        have : (x + y) * _ < 0 := Int.mul_neg_of_neg_of_pos h hp2
        rw [← key] at this
        rcases (show T < 0 ∨ 0 ≤ T by omega) with h' | h'
        · exact h'
        · have := Int.mul_nonneg h' (Int.le_of_lt hp1); omega
    rw [if_neg hT0, hsgn]
    unfold fd
    have hmag : (x + y).natAbs * 2 ^ (e - min (min p q) e).toNat = T.natAbs * 2 ^ (min p q - min (min p q) e).toNat := by
      have := congrArg Int.natAbs key
      rw [Int.natAbs_mul, Int.natAbs_mul, Int.natAbs_natCast, Int.natAbs_natCast] at this
      exact this.symm
    have hb := bl_pos (n := (x + y).natAbs) (by omega)
    have := hf.1
    have := hf.2
    exact (nearest_val _ (c := min (min p q) e) (by omega) (by omega) (by omega) (by omega) (by omega) hmag).symm

theorem add_fd {e x y : Int} (fx : Fits e x) (fy : Fits e y) (rx : Rep x) (ry : Rep y) (hf : Fits e (x + y)) : double.add (fd e x) (fd e y) = some (fd e (x + y)) := by
  obtain ⟨s, m, p, h1, h2, h3, h4⟩ := read_fd fx rx
  obtain ⟨t, n, q, g1, g2, g3, g4⟩ := read_fd fy ry
  unfold Format.add
  rw [h1, g1]
  refine sum_means h2 g2 hf ?_
  intro hz
  by_cases hx : x = 0
  · rw [h3 hx, Bool.false_and]
  · rw [h4 hx, g4 (by omega)]
    by_cases hx' : x < 0
    · rw [decide_eq_false (show ¬ y < 0 by omega), Bool.and_false]
    · rw [decide_eq_false hx', Bool.false_and]

theorem sub_fd {e x y : Int} (fx : Fits e x) (fy : Fits e y) (rx : Rep x) (ry : Rep y) (hf : Fits e (x - y)) : double.sub (fd e x) (fd e y) = some (fd e (x - y)) := by
  obtain ⟨s, m, p, h1, h2, h3, h4⟩ := read_fd fx rx
  obtain ⟨t, n, q, g1, g2, g3, g4⟩ := read_fd fy ry
  unfold Format.sub
  rw [h1, g1, Int.sub_eq_add_neg]
  refine sum_means h2 g2.opp (by rw [← Int.sub_eq_add_neg]; exact hf) ?_
  intro hz
  by_cases hx : x = 0
  · rw [h3 hx, Bool.false_and]
  · rw [h4 hx, g4 (by omega)]
    by_cases hx' : x < 0
    · rw [decide_eq_true (show y < 0 by omega), Bool.not_true, Bool.and_false]
    · rw [decide_eq_false hx', Bool.false_and]
end Go.Proofs.YtonhpkigoplmaaaGreatDoor
namespace Go.Proofs.YtonhpkigoplmaaaGreatDoor
open Go.RowKit Go.Extern Ieee

/-- On which side of its nearest float a number lies. -/
def side (s : Bool) (n : Nat) : Ordering := if inex n = false then .eq else if s = nup n then .gt else .lt

theorem nup_inex {n : Nat} (h : nup n = true) : inex n = true := by
  cases hi : inex n
  · rw [nup_rep hi] at h; cases h
  · rfl

theorem around_round (s : Bool) (n : Nat) (e : Int) (q : Nat) (w : World) (h0 : n ≠ 0) (h1 : -1021 ≤ e + bl n) (h2 : e + bl n ≤ 1022) (hq : FloatKind.f64.format.order q 0 = some (side s n)) :
    Calls Tryz.prog 141 #[.float .f64 (double.nearest s n e), .float .f64 q] w fun ev w' => ev = .returned (.agg #[.float .f64 (wd s (rung n e + if offS s (-1) && inex n then 1 else 0).toNat), .float .f64 (wd s (rung n e + if offS s 1 && inex n then 1 else 0).toNat)]) ∧ Below w.heap.size w w' := by
  have hnr := nearest_rung s h0 h1 (by omega)
  have hm := mf_bounds (Nat.pos_of_ne_zero h0)
  obtain ⟨R, hR⟩ : ∃ R : Nat, rung n e = (R : Int) ∧ 0 < R ∧ R + 1 < 9218868437227405312 := by
    refine ⟨(rung n e).toNat, ?_⟩
    unfold rung
    omega
  obtain ⟨hR, r0, r1⟩ := hR
  rw [hR] at hnr ⊢
  have hcast : ∀ b : Bool, ((R : Int) + if b = true then 1 else 0).toNat = R + (if b = true then 1 else 0) := by
    intro b; cases b <;> simp
  rw [hcast] at hnr
  rw [hcast, hcast]
  have hnw : double.nearest s n e = wd s (R + if nup n = true then 1 else 0) := hnr
  rw [hnw]
  cases hi : inex n
  · have hn : nup n = false := nup_rep hi
    have hs : side s n = .eq := by unfold side; rw [if_pos hi]
    rw [hs] at hq
    have := aroundF_eq (wd s R) q w hq
    simpa [hn] using this
  · cases hn : nup n
    · cases s
      · have hs : side false n = .gt := by unfold side; rw [hi, hn]; rfl
        rw [hs] at hq
        have := aroundF_pos false R q w hq (by omega) r0
        simpa [offS] using this
      · have hs : side true n = .lt := by unfold side; rw [hi, hn]; rfl
        rw [hs] at hq
        have := aroundF_neg true R q w hq (by omega) r0
        simpa [offS] using this
    · cases s
      · have hs : side false n = .lt := by unfold side; rw [hi, hn]; rfl
        rw [hs] at hq
        have := aroundF_neg false (R + 1) q w hq (by omega) (by omega)
        simpa [offS] using this
      · have hs : side true n = .gt := by unfold side; rw [hi, hn]; rfl
        rw [hs] at hq
        have := aroundF_pos true (R + 1) q w hq (by omega) (by omega)
        simpa [offS] using this

/-- The amount of the nearest float (of as great a power of two). -/
def nearM (n : Nat) : Nat := if bl n ≤ 53 then n else (mf n + if nup n then 1 else 0) * 2 ^ (bl n - 53)

theorem inex_small {n : Nat} (h : bl n ≤ 53) : inex n = false := by
  unfold inex; rw [decide_eq_false]; omega

theorem nearM_facts {n : Nat} (h0 : n ≠ 0) : nearM n ≠ 0 ∧ inex (nearM n) = false ∧ (∀ e, rung (nearM n) e = rung n e + if nup n then 1 else 0) ∧ bl (nearM n) ≤ bl n + 1 := by
  unfold nearM
  by_cases hb : bl n ≤ 53
  · rw [if_pos hb]
    have hn : nup n = false := nup_rep (inex_small hb)
    refine ⟨h0, inex_small hb, ?_, by omega⟩
    intro e; rw [hn]; simp
  · rw [if_neg hb]
    obtain ⟨m1, m2⟩ := mf_bounds (Nat.pos_of_ne_zero h0)
    have hx : ∀ x : Nat, 4503599627370496 ≤ x → x < 9007199254740992 → x * 2 ^ (bl n - 53) ≠ 0 ∧ inex (x * 2 ^ (bl n - 53)) = false ∧ (∀ e : Int, rung (x * 2 ^ (bl n - 53)) e = (e + bl n + 1021) * 4503599627370496 + (x : Int)) ∧ bl (x * 2 ^ (bl n - 53)) ≤ bl n + 1 := by
      intro x x1 x2
      have hx0 : x ≠ 0 := by omega
      have hbx := bl53 x1 x2
      refine ⟨Nat.mul_ne_zero hx0 (Nat.pos_iff_ne_zero.1 (Nat.two_pow_pos _)), inex_shift hx0 _ (inex_small (by omega)), ?_, by rw [bl_shift hx0]; omega⟩
      intro e
      unfold rung
      rw [mf_shift hx0, bl_shift hx0, hbx]
      have : mf x = x := by unfold mf; rw [if_pos (by omega), hbx]; simp
      rw [this]
      congr 2
      omega
    cases hn : nup n
    · have := hx (mf n) m1 m2
      simpa [rung] using this
    · by_cases hc : mf n + 1 < 9007199254740992
      · have := hx (mf n + 1) (by omega) hc
        simp only [if_true]
        refine ⟨this.1, this.2.1, ?_, this.2.2.2⟩
        intro e
        rw [this.2.2.1]
        unfold rung
        omega
      · have hm : mf n + 1 = 9007199254740992 := by omega
        simp only [if_true]
        rw [hm]
        have hb54 := bl54
        have h54 : (9007199254740992 : Nat) ≠ 0 := by decide
        have hmf : mf 9007199254740992 = 4503599627370496 := by unfold mf; rw [hb54]; rfl
        refine ⟨Nat.mul_ne_zero h54 (Nat.pos_iff_ne_zero.1 (Nat.two_pow_pos _)), inex_shift h54 _ (by unfold inex; rw [hb54]; rfl), ?_, by rw [bl_shift h54]; omega⟩
        intro e
        unfold rung
        rw [mf_shift h54, bl_shift h54, hb54, hmf]
        omega

theorem nearM_cmp (n : Nat) : (inex n = false → nearM n = n) ∧ (inex n = true → nup n = true → n < nearM n) ∧ (inex n = true → nup n = false → nearM n < n) ∧ n ≤ nearM n + 2 ^ (bl n - 53) ∧ nearM n ≤ n + 2 ^ (bl n - 53) := by
  unfold nearM
  by_cases hb : bl n ≤ 53
  · rw [if_pos hb]
    have hi := inex_small hb
    refine ⟨fun _ => rfl, fun h => (by rw [hi] at h; cases h), fun h => (by rw [hi] at h; cases h), Nat.le_add_right _ _, Nat.le_add_right _ _⟩
  · rw [if_neg hb]
    have hmf : mf n = n / 2 ^ (bl n - 53) := by unfold mf; rw [if_neg hb]
    have hix : inex n = decide (n % 2 ^ (bl n - 53) ≠ 0) := by unfold inex; simp [show 53 < bl n by omega]
    have hd := Nat.div_add_mod n (2 ^ (bl n - 53))
    have hl := Nat.mod_lt n (Nat.two_pow_pos (bl n - 53))
    rw [hmf]
    cases hn : nup n
    · rw [if_neg Bool.false_ne_true, Nat.add_zero]
      rw [Nat.mul_comm] at hd
      generalize n / 2 ^ (bl n - 53) * 2 ^ (bl n - 53) = A at *
      generalize n % 2 ^ (bl n - 53) = r at *
      generalize 2 ^ (bl n - 53) = g at *
      refine ⟨fun h => ?_, fun _ h => (by cases h), fun h _ => ?_, by omega, by omega⟩
      · rw [hix, decide_eq_false_iff_not] at h; omega
      · rw [hix, decide_eq_true_eq] at h; omega
    · have hi := nup_inex hn
      rw [if_pos rfl, Nat.add_mul, Nat.one_mul]
      rw [Nat.mul_comm] at hd
      generalize n / 2 ^ (bl n - 53) * 2 ^ (bl n - 53) = A at *
      generalize n % 2 ^ (bl n - 53) = r at *
      generalize 2 ^ (bl n - 53) = g at *
      refine ⟨fun h => (by rw [hi] at h; cases h), fun _ _ => by omega, fun _ h => (by cases h), by omega, by omega⟩

/-- A float's sign. -/
theorem ord_fd {e z : Int} (hf : Fits e z) (h2 : e + bl z.natAbs ≤ 1022) : FloatKind.f64.format.order (fd e z) 0 = some (if z = 0 then .eq else if z < 0 then .lt else .gt) := by
  by_cases h0 : z = 0
  · subst h0; rw [fd_zero]; rfl
  · have hn : z.natAbs ≠ 0 := by omega
    have hm := mf_bounds (Nat.pos_of_ne_zero hn)
    have f1 := hf.1
    have hb := bl_pos (Nat.pos_of_ne_zero hn)
    rw [fd_wd h0 hf, if_neg h0, ord_zero (by unfold rung; split <;> omega) (by unfold rung; split <;> omega)]
    by_cases hz : z < 0
    · rw [decide_eq_true hz, if_pos rfl, if_pos hz]
    · rw [decide_eq_false hz, if_neg Bool.false_ne_true, if_neg hz]
end Go.Proofs.YtonhpkigoplmaaaGreatDoor
namespace Go.Proofs.YtonhpkigoplmaaaGreatDoor
open Go.RowKit

/-- Up, by the half and what is below it. -/
def zup (n : Nat) : Bool := decide (n / 2 ^ (bl n - 54) % 2 = 1) && (!decide (n % 2 ^ (bl n - 54) = 0) || decide (n / 2 ^ (bl n - 53) % 2 = 1))

/-- What Round gives, to the nearest. -/
def zround (s : Bool) (n : Nat) (e : Int) : Nat × Bool :=
  if n = 0 then (0, true)
  else if bl n ≤ 53 then packN s (n * 2 ^ (53 - bl n)) (e + ((bl n : Int) - 53))
  else if zup n = true then
    (if n / 2 ^ (bl n - 53) + 1 = 9007199254740992 then packN s 4503599627370496 (e + ((bl n - 53 : Nat) : Int) + 1) else packN s (n / 2 ^ (bl n - 53) + 1) (e + ((bl n - 53 : Nat) : Int)))
  else packN s (n / 2 ^ (bl n - 53)) (e + ((bl n - 53 : Nat) : Int))

def ZRoundR (s : Bool) (n : Nat) (e : Int) (w : World) (ev : Ending) (w' : World) : Prop :=
  ev = .returned (.tuple #[.int .u64 ((zround s n e).1 : Int), .bool (zround s n e).2]) ∧ Below w.heap.size w w'

theorem zround_fin {s : Bool} {n m : Nat} {e e' : Int} {w wm w2 : World} (r : zround s n e = packN s m e') (h1 : Below w.heap.size w wm) (h2 : Below wm.heap.size wm w2) : ZRoundR s n e w (.returned (.tuple #[.int .u64 ((packN s m e').1 : Int), .bool (packN s m e').2])) w2 :=
  ⟨by rw [r], h1.trans (h2.mono h1.size)⟩

theorem i64_and1z (d : Nat) (h : d < 16777216) : bits .and .i64 (d : Int) 1 = ((d % 2 : Nat) : Int) := by
  show IntKind.i64.wrap ((BitVec.ofInt 64 (d : Int) &&& BitVec.ofInt 64 1).toNat : Int) = _
  rw [BitVec.toNat_and, BitVec.toNat_ofInt, BitVec.toNat_ofInt, IntKind.wrap_i64]
  have e1 : ((d : Int) % ((2 ^ 64 : Nat) : Int)).toNat = d := by omega
  have e2 : ((1 : Int) % ((2 ^ 64 : Nat) : Int)).toNat = 1 := by decide
  rw [e1, e2, Nat.and_one_is_mod]
  omega

theorem digits_head {n : Nat} (h : n ≠ 0) : (digits n).getD 0 0 = n % 16777216 ∧ 0 < (digits n).length := by
  have hn : digits n ≠ [] := fun hc => h ((digits_nil_iff n).1 hc)
  obtain ⟨d, l, hl⟩ := List.exists_cons_of_ne_nil hn
  have hv := nval_digits n
  have hd := digits_lt n d (by rw [hl]; exact List.mem_cons_self)
  rw [hl] at hv ⊢
  refine ⟨?_, by simp⟩
  have : nval (d :: l) = d + 16777216 * nval l := rfl
  simp only [List.getD_cons_zero]
  omega

/-- The lowest digit of a number. -/
theorem natV_head {w : World} {v : Value} {n : Nat} (h : NatV w v n) (h0 : n ≠ 0) : ∃ b off len cap, v = .slice (some ⟨b, off, none⟩) len cap ∧ 0 < len ∧ w.cell? ⟨b, off, none⟩ = some (.int .i64 ((n % 16777216 : Nat) : Int)) := by
  obtain ⟨hd, hl⟩ := digits_head h0
  rcases h.2 with ⟨_, he⟩ | ⟨b, off, cap, cur, rfl, hh, hc, hcell⟩
  · rw [he] at hl; simp at hl
  · refine ⟨b, off, _, cap, rfl, hl, ?_⟩
    have := hcell 0 hl
    rw [Nat.add_zero, hd] at this
    rw [cell_of_cur hh]; exact this

set_option maxHeartbeats 1000000 in
set_option maxRecDepth 100000 in
theorem zround_long (x : Value) (s : Bool) (n : Nat) (e : Int) (w : World) (hx : NumV w x s n e) (hn : 53 < bl n) (hn2 : bl n ≤ 100000) (he1 : -200000 ≤ e) (he2 : e ≤ 200000) :
    Calls Tryz.prog 115 #[x, .int .i64 0] w fun ev w' => ZRoundR s n e w ev w' := by
  obtain ⟨ao, la, ca, rfl, hl1, hN⟩ := hx
  have hlen := len_of_bl n
  have HL : Hid (la = (digits n).length) := hl1
  have hW : Below w.heap.size w (w.alloc (Obj.cells #[Value.bool s, Value.slice ao la ca, Value.int IntKind.i64 e] 92)) := (Below.refl _ _).alloc (Nat.le_refl _) _
  have HN : Hid (NatV (w.alloc (Obj.cells #[Value.bool s, Value.slice ao la ca, Value.int IntKind.i64 e] 92)) (.slice ao la ca) n) := hN.below hW (Nat.le_refl _)
  have HW : Hid (Below w.heap.size w (w.alloc (Obj.cells #[Value.bool s, Value.slice ao la ca, Value.int IntKind.i64 e] 92))) := hW
  have HLB : Hid _ := long_bounds hn
  have HLN : Hid ((digits n).length ≤ 500000) := by show _ ≤ _; omega
  have H0 : n ≠ 0 := by rintro rfl; simp [bl_zero] at hn
  have HZ1 : Hid (zup n = true → n / 2 ^ (bl n - 53) + 1 = 9007199254740992 → zround s n e = packN s 4503599627370496 (e + ((bl n - 53 : Nat) : Int) + 1)) := fun h1 h2 => by unfold zround; rw [if_neg H0, if_neg (by omega), if_pos h1, if_pos h2]
  have HZ2 : Hid (zup n = true → ¬ n / 2 ^ (bl n - 53) + 1 = 9007199254740992 → zround s n e = packN s (n / 2 ^ (bl n - 53) + 1) (e + ((bl n - 53 : Nat) : Int))) := fun h1 h2 => by unfold zround; rw [if_neg H0, if_neg (by omega), if_pos h1, if_neg h2]
  have HZ3 : Hid (zup n = false → zround s n e = packN s (n / 2 ^ (bl n - 53)) (e + ((bl n - 53 : Nat) : Int))) := fun h1 => by unfold zround; rw [if_neg H0, if_neg (by omega), if_neg (by rw [h1]; exact Bool.false_ne_true)]
  have HZU : Hid (zup n = (decide (n / 2 ^ (bl n - 54) % 2 = 1) && (!decide (n % 2 ^ (bl n - 54) = 0) || decide (n / 2 ^ (bl n - 53) % 2 = 1)))) := rfl
  have HS : Hid (Calls Tryz.prog 161 #[.slice ao la ca] (w.alloc (Obj.cells #[Value.bool s, Value.slice ao la ca, Value.int IntKind.i64 e] 92)) fun ev w' => ev = .returned (.int .i64 (bl n : Int)) ∧ w' = w.alloc (Obj.cells #[Value.bool s, Value.slice ao la ca, Value.int IntKind.i64 e] 92)) := size_any n _ _ HN.out (by have := HLN.out; omega)
  clear hl1 hN hW hlen H0
  generalize bl n = B at *
  obtain ⟨K, rfl⟩ : ∃ K, B = K + 53 := ⟨B - 53, by omega⟩
  obtain ⟨j, hj⟩ : ∃ j, K = j + 1 := ⟨K - 1, by omega⟩
  rw [show K + 53 - 53 = K by omega] at HLB HZ1 HZ2 HZ3 HZU
  rw [show K + 53 - 54 = j by omega] at HZU
  have HJ : Hid (K = j + 1) := hj
  have t3 : (K : Int) - 1 = (j : Int) := by omega
  clear hj
  go_enter Tryz.func115, Tryz.ntmps115
  go_wp2_with fail
  refine Calls.mono HS.out ?_
  rintro ev w1 ⟨rfl, rfl⟩
  obtain ⟨k00, k01, k02, k03, k04, k05⟩ := blk3 (blk_new w (Obj.cells #[Value.bool s, Value.slice ao la ca, Value.int IntKind.i64 e] 92))
  have t0 : (((K + 53 : Nat) : Int) == 0) = false := by rw [beq_eq_false_iff_ne]; omega
  have t2 : ((K + 53 : Nat) : Int) - 53 = (K : Int) := by omega
  go_wp2_with fail
  refine (down_any n K _ _ HN.out (by have := HLN.out; omega) (by omega)).mono ?_
  rintro ev w2 ⟨v2, rfl, hN2, hb2⟩
  obtain ⟨qb, qo, ql, qc, rfl, hql, hqc⟩ := natV_head hN2 (by have := HLB.out.1; omega)
  have HB2 : Hid (Below w.heap.size w w2) := HW.out.trans (hb2.mono HW.out.size)
  have HQ2 : Hid (NatV w2 (.slice (some ⟨qb, qo, none⟩) ql qc) (n / 2 ^ K)) := hN2
  have HNN : Hid (NatV w2 (.slice ao la ca) n) := HN.out.below hb2 (Nat.le_refl _)
  have HK2 : Hid (w2.heap[w.heap.size]? = _) := blk_below (blk_new w (Obj.cells #[Value.bool s, Value.slice ao la ca, Value.int IntKind.i64 e] 92)) hb2
  obtain ⟨j00, j01, j02, j03, j04, j05⟩ := blk3 HK2.out
  have hlq := len_of_bl (n / 2 ^ K)
  rw [bl53 HLB.out.1 HLB.out.2] at hlq
  have HLQ : Hid ((digits (n / 2 ^ K)).length ≤ 3) := hlq
  have HS2 : Hid (bl (n / 2 ^ K) = 53) := bl53 HLB.out.1 HLB.out.2
  have HQL : Hid (0 < ql) := hql
  have HH0 : Hid (n / 2 ^ j ≠ 0) := by
    show _ ≠ _
    have h1 := HLB.out.1
    rw [HJ.out, Nat.pow_succ, ← Nat.div_div_eq_div_mul] at h1
    omega
  clear hb2 hN2 hlq k00 k01 k02 k03 k04 k05 HS HN HW t0 t2 hqc hql
  cases hz : decide (n % 2 ^ K = 0)
  · clear hz
    go_wp2_with fail
    refine (down_any n j _ _ HNN.out (by have := HLN.out; omega) (by omega)).mono ?_
    rintro ev w3 ⟨v3, rfl, hN3, hb3⟩
    obtain ⟨hb_, ho, hl, hc_, rfl, hhl, hhc⟩ := natV_head hN3 HH0.out
    have HB3 : Hid (Below w.heap.size w w3) := HB2.out.trans (hb3.mono HB2.out.size)
    have HQ3 : Hid (NatV w3 (.slice (some ⟨qb, qo, none⟩) ql qc) (n / 2 ^ K)) := HQ2.out.below hb3 (Nat.le_refl _)
    have HN3 : Hid (NatV w3 (.slice ao la ca) n) := HNN.out.below hb3 (Nat.le_refl _)
    have HK3 : Hid (w3.heap[w.heap.size]? = _) := blk_below HK2.out hb3
    obtain ⟨j00, j01, j02, j03, j04, j05⟩ := blk3 HK3.out
    have hhl' : (0 : Int) < (hl : Int) := by omega
    have hand := i64_and1z (n / 2 ^ j % 16777216) (by omega)
    rw [show n / 2 ^ j % 16777216 % 2 = n / 2 ^ j % 2 by omega] at hand
    clear hb3 hN3 HB2 HQ2 HNN HK2 HH0
    generalize n / 2 ^ j % 16777216 = d at *
    rcases (show n / 2 ^ j % 2 = 0 ∨ n / 2 ^ j % 2 = 1 by omega) with hp | hp
    · rw [hp] at hand
      have UP : Hid (zup n = false) := by
        show _ = _
        rw [HZU.out, hp]; rfl
      have hand0 : bits .and .i64 (d : Int) 1 = 0 := hand
      clear hp hand HZU
      go_wp2_with fail
      refine (down_any n j _ _ HN3.out (by have := HLN.out; omega) (by omega)).mono ?_
      rintro ev w4 ⟨v4, rfl, hN4, hb4⟩
      obtain ⟨ao4, la4, ca4, rfl, HL4⟩ := hN4.slice2
      have HB4 : Hid (Below w.heap.size w w4) := HB3.out.trans (hb4.mono HB3.out.size)
      have HQ4 : Hid (NatV w4 (.slice (some ⟨qb, qo, none⟩) ql qc) (n / 2 ^ K)) := HQ3.out.below hb4 (Nat.le_refl _)
      have HK4 : Hid (w4.heap[w.heap.size]? = _) := blk_below HK3.out hb4
      obtain ⟨i00, i01, i02, i03, i04, i05⟩ := blk3 HK4.out
      clear hb4 hN4 HB3 HQ3 HN3 HK3 j00 j01 j02 j03 j04 j05 hhc hhl hhl' hand0
      generalize decide (n % 2 ^ j = 0) = lw at *
      cases lw <;> (
        go_wp2_with fail
        have FIN2 : Hid (zround s n e = packN s (n / 2 ^ K) (e + (K : Int))) := HZ3.out UP.out
        refine (size_any _ _ _ HQ4.out (by have := HLQ.out; omega)).mono ?_
        rintro ev w7 ⟨rfl, rfl⟩
        rw [HS2.out]
        go_wp2_with fail
        refine (packed_any _ (n / 2 ^ K) (e + (K : Int)) _ _ HQ4.out HLB.out.1 HLB.out.2 (by omega) (by omega)).mono ?_
        rintro ev w9 ⟨rfl, hb9⟩
        have HB9 : Hid (Below _ _ w9) := hb9
        clear hb9
        go_wp2
        go_ret2
        exact zround_fin FIN2.out HB4.out HB9.out)
    · rw [hp] at hand
      have hand1 : bits .and .i64 (d : Int) 1 = 1 := hand
      have HZV : Hid (zup n = (!decide (n % 2 ^ j = 0) || decide (n / 2 ^ K % 2 = 1))) := by
        show _ = _
        rw [HZU.out, hp]; rfl
      clear hp hand HZU
      go_wp2_with fail
      refine (down_any n j _ _ HN3.out (by have := HLN.out; omega) (by omega)).mono ?_
      rintro ev w4 ⟨v4, rfl, hN4, hb4⟩
      obtain ⟨ao4, la4, ca4, rfl, HL4⟩ := hN4.slice2
      have HB4 : Hid (Below w.heap.size w w4) := HB3.out.trans (hb4.mono HB3.out.size)
      have HQ4 : Hid (NatV w4 (.slice (some ⟨qb, qo, none⟩) ql qc) (n / 2 ^ K)) := HQ3.out.below hb4 (Nat.le_refl _)
      have HK4 : Hid (w4.heap[w.heap.size]? = _) := blk_below HK3.out hb4
      obtain ⟨i00, i01, i02, i03, i04, i05⟩ := blk3 HK4.out
      clear hb4 hN4 HB3 HQ3 HN3 HK3 j00 j01 j02 j03 j04 j05 hhc hhl hhl' hand1
      cases hlw : decide (n % 2 ^ j = 0)
      · have UP : Hid (zup n = true) := by
          show _ = _
          rw [HZV.out, hlw]; rfl
        clear hlw HZV
        go_wp2_with fail
        refine (nat_any 1 _ (by omega)).mono ?_
        rintro ev w5 ⟨v5, rfl, hN5, hb5⟩
        obtain ⟨ao5, la5, ca5, rfl, HL5⟩ := hN5.slice2
        have HN5 : Hid (NatV w5 _ _) := hN5
        have HQ5 : Hid (NatV w5 (.slice (some ⟨qb, qo, none⟩) ql qc) (n / 2 ^ K)) := HQ4.out.below hb5 (Nat.le_refl _)
        have HK5 : Hid (w5.heap[w.heap.size]? = _) := blk_below HK4.out hb5
        have HB5 : Hid (Below w.heap.size w w5) := HB4.out.trans (hb5.mono HB4.out.size)
        clear hb5 hN5 HQ4 HK4 HB4
        go_wp2_with fail
        refine (plus_any (n / 2 ^ K) 1 _ _ _ HQ5.out HN5.out (by have := HLQ.out; omega) (by decide)).mono ?_
        rintro ev w6 ⟨v6, rfl, hN6, hb6⟩
        obtain ⟨ao6, la6, ca6, rfl, HL6⟩ := hN6.slice2
        have HN6 : Hid (NatV w6 _ _) := hN6
        have HK6 : Hid (w6.heap[w.heap.size]? = _) := blk_below HK5.out hb6
        have HB6 : Hid (Below w.heap.size w w6) := HB5.out.trans (hb6.mono HB5.out.size)
        obtain ⟨i00, i01, i02, i03, i04, i05⟩ := blk3 HK6.out
        clear hb6 hN6 HQ5 HK5 HB5 HN5
        go_wp2_with fail
        by_cases hq : n / 2 ^ K + 1 = 9007199254740992
        · have FIN2 : Hid (zround s n e = packN s 4503599627370496 (e + (K : Int) + 1)) := HZ1.out UP.out hq
          rw [hq] at HN6
          refine (size_any 9007199254740992 _ _ HN6.out (by decide)).mono ?_
          rintro ev w7 ⟨rfl, rfl⟩
          rw [bl54]
          go_wp2_with fail
          refine (down_any 9007199254740992 1 _ _ HN6.out (by decide) (by decide)).mono ?_
          rintro ev w8 ⟨v8, rfl, hN8, hb8⟩
          obtain ⟨ao8, la8, ca8, rfl, HL8⟩ := hN8.slice2
          have HN8 : Hid (NatV w8 _ 4503599627370496) := hN8
          obtain ⟨l00, l01, l02, l03, l04, l05⟩ := blk3 (blk_below HK6.out hb8)
          have HB8 : Hid (Below w.heap.size w w8) := HB6.out.trans (hb8.mono HB6.out.size)
          clear hb8 hN8 i00 i01 i02 i03 i04 i05
          go_wp2_with fail
          refine (packed_any _ 4503599627370496 (e + (K : Int) + 1) _ _ HN8.out (by decide) (by decide) (by omega) (by omega)).mono ?_
          rintro ev w9 ⟨rfl, hb9⟩
          have HB9 : Hid (Below _ _ w9) := hb9
          clear hb9
          go_wp2
          go_ret2
          exact zround_fin FIN2.out HB8.out HB9.out
        · have FIN2 : Hid (zround s n e = packN s (n / 2 ^ K + 1) (e + (K : Int))) := HZ2.out UP.out hq
          have q1 : Hid (n / 2 ^ K + 1 < 9007199254740992) := by show _ < _; have := HLB.out.2; omega
          have q2 : Hid (4503599627370496 ≤ n / 2 ^ K + 1) := by show _ ≤ _; have := HLB.out.1; omega
          have hlq := len_of_bl (n / 2 ^ K + 1)
          rw [bl53 q2.out q1.out] at hlq
          clear hq
          refine (size_any (n / 2 ^ K + 1) _ _ HN6.out (by omega)).mono ?_
          clear hlq
          rintro ev w7 ⟨rfl, rfl⟩
          rw [bl53 q2.out q1.out]
          go_wp2_with fail
          refine (packed_any _ (n / 2 ^ K + 1) (e + (K : Int)) _ _ HN6.out q2.out q1.out (by omega) (by omega)).mono ?_
          rintro ev w9 ⟨rfl, hb9⟩
          have HB9 : Hid (Below _ _ w9) := hb9
          clear hb9
          go_wp2
          go_ret2
          exact zround_fin FIN2.out HB6.out HB9.out
      · obtain ⟨qb', qo', ql', qc', hqe, hq0, hqc⟩ := natV_head HQ4.out (by have := HLB.out.1; omega)
        cases hqe
        have hq0' : (0 : Int) < (ql : Int) := by omega
        have hand := i64_and1z (n / 2 ^ K % 16777216) (by omega)
        rw [show n / 2 ^ K % 16777216 % 2 = n / 2 ^ K % 2 by omega] at hand
        generalize n / 2 ^ K % 16777216 = dq at *
        rcases (show n / 2 ^ K % 2 = 0 ∨ n / 2 ^ K % 2 = 1 by omega) with hp | hp
        · rw [hp] at hand
          have UP : Hid (zup n = false) := by
            show _ = _
            rw [HZV.out, hlw, hp]; rfl
          have hand0 : bits .and .i64 (dq : Int) 1 = 0 := hand
          clear hp hand HZV hlw
          go_wp2_with fail
          have FIN2 : Hid (zround s n e = packN s (n / 2 ^ K) (e + (K : Int))) := HZ3.out UP.out
          refine (size_any _ _ _ HQ4.out (by have := HLQ.out; omega)).mono ?_
          rintro ev w7 ⟨rfl, rfl⟩
          rw [HS2.out]
          go_wp2_with fail
          refine (packed_any _ (n / 2 ^ K) (e + (K : Int)) _ _ HQ4.out HLB.out.1 HLB.out.2 (by omega) (by omega)).mono ?_
          rintro ev w9 ⟨rfl, hb9⟩
          have HB9 : Hid (Below _ _ w9) := hb9
          clear hb9
          go_wp2
          go_ret2
          exact zround_fin FIN2.out HB4.out HB9.out
        · rw [hp] at hand
          have UP : Hid (zup n = true) := by
            show _ = _
            rw [HZV.out, hlw, hp]; rfl
          have hand0 : bits .and .i64 (dq : Int) 1 = 1 := hand
          clear hp hand HZV hlw
          go_wp2_with fail
          refine (nat_any 1 _ (by omega)).mono ?_
          rintro ev w5 ⟨v5, rfl, hN5, hb5⟩
          obtain ⟨ao5, la5, ca5, rfl, HL5⟩ := hN5.slice2
          have HN5 : Hid (NatV w5 _ _) := hN5
          have HQ5 : Hid (NatV w5 (.slice (some ⟨qb, qo, none⟩) ql qc) (n / 2 ^ K)) := HQ4.out.below hb5 (Nat.le_refl _)
          have HK5 : Hid (w5.heap[w.heap.size]? = _) := blk_below HK4.out hb5
          have HB5 : Hid (Below w.heap.size w w5) := HB4.out.trans (hb5.mono HB4.out.size)
          clear hb5 hN5 HQ4 HK4 HB4
          go_wp2_with fail
          refine (plus_any (n / 2 ^ K) 1 _ _ _ HQ5.out HN5.out (by have := HLQ.out; omega) (by decide)).mono ?_
          rintro ev w6 ⟨v6, rfl, hN6, hb6⟩
          obtain ⟨ao6, la6, ca6, rfl, HL6⟩ := hN6.slice2
          have HN6 : Hid (NatV w6 _ _) := hN6
          have HK6 : Hid (w6.heap[w.heap.size]? = _) := blk_below HK5.out hb6
          have HB6 : Hid (Below w.heap.size w w6) := HB5.out.trans (hb6.mono HB5.out.size)
          obtain ⟨i00, i01, i02, i03, i04, i05⟩ := blk3 HK6.out
          clear hb6 hN6 HQ5 HK5 HB5 HN5
          go_wp2_with fail
          by_cases hq : n / 2 ^ K + 1 = 9007199254740992
          · have FIN2 : Hid (zround s n e = packN s 4503599627370496 (e + (K : Int) + 1)) := HZ1.out UP.out hq
            rw [hq] at HN6
            refine (size_any 9007199254740992 _ _ HN6.out (by decide)).mono ?_
            rintro ev w7 ⟨rfl, rfl⟩
            rw [bl54]
            go_wp2_with fail
            refine (down_any 9007199254740992 1 _ _ HN6.out (by decide) (by decide)).mono ?_
            rintro ev w8 ⟨v8, rfl, hN8, hb8⟩
            obtain ⟨ao8, la8, ca8, rfl, HL8⟩ := hN8.slice2
            have HN8 : Hid (NatV w8 _ 4503599627370496) := hN8
            obtain ⟨l00, l01, l02, l03, l04, l05⟩ := blk3 (blk_below HK6.out hb8)
            have HB8 : Hid (Below w.heap.size w w8) := HB6.out.trans (hb8.mono HB6.out.size)
            clear hb8 hN8 i00 i01 i02 i03 i04 i05
            go_wp2_with fail
            refine (packed_any _ 4503599627370496 (e + (K : Int) + 1) _ _ HN8.out (by decide) (by decide) (by omega) (by omega)).mono ?_
            rintro ev w9 ⟨rfl, hb9⟩
            have HB9 : Hid (Below _ _ w9) := hb9
            clear hb9
            go_wp2
            go_ret2
            exact zround_fin FIN2.out HB8.out HB9.out
          · have FIN2 : Hid (zround s n e = packN s (n / 2 ^ K + 1) (e + (K : Int))) := HZ2.out UP.out hq
            have q1 : Hid (n / 2 ^ K + 1 < 9007199254740992) := by show _ < _; have := HLB.out.2; omega
            have q2 : Hid (4503599627370496 ≤ n / 2 ^ K + 1) := by show _ ≤ _; have := HLB.out.1; omega
            have hlq := len_of_bl (n / 2 ^ K + 1)
            rw [bl53 q2.out q1.out] at hlq
            clear hq
            refine (size_any (n / 2 ^ K + 1) _ _ HN6.out (by omega)).mono ?_
            clear hlq
            rintro ev w7 ⟨rfl, rfl⟩
            rw [bl53 q2.out q1.out]
            go_wp2_with fail
            refine (packed_any _ (n / 2 ^ K + 1) (e + (K : Int)) _ _ HN6.out q2.out q1.out (by omega) (by omega)).mono ?_
            rintro ev w9 ⟨rfl, hb9⟩
            have HB9 : Hid (Below _ _ w9) := hb9
            clear hb9
            go_wp2
            go_ret2
            exact zround_fin FIN2.out HB6.out HB9.out
  · clear hz
    go_wp2_with fail
    refine (down_any n j _ _ HNN.out (by have := HLN.out; omega) (by omega)).mono ?_
    rintro ev w3 ⟨v3, rfl, hN3, hb3⟩
    obtain ⟨hb_, ho, hl, hc_, rfl, hhl, hhc⟩ := natV_head hN3 HH0.out
    have HB3 : Hid (Below w.heap.size w w3) := HB2.out.trans (hb3.mono HB2.out.size)
    have HQ3 : Hid (NatV w3 (.slice (some ⟨qb, qo, none⟩) ql qc) (n / 2 ^ K)) := HQ2.out.below hb3 (Nat.le_refl _)
    have HN3 : Hid (NatV w3 (.slice ao la ca) n) := HNN.out.below hb3 (Nat.le_refl _)
    have HK3 : Hid (w3.heap[w.heap.size]? = _) := blk_below HK2.out hb3
    obtain ⟨j00, j01, j02, j03, j04, j05⟩ := blk3 HK3.out
    have hhl' : (0 : Int) < (hl : Int) := by omega
    have hand := i64_and1z (n / 2 ^ j % 16777216) (by omega)
    rw [show n / 2 ^ j % 16777216 % 2 = n / 2 ^ j % 2 by omega] at hand
    clear hb3 hN3 HB2 HQ2 HNN HK2 HH0
    generalize n / 2 ^ j % 16777216 = d at *
    rcases (show n / 2 ^ j % 2 = 0 ∨ n / 2 ^ j % 2 = 1 by omega) with hp | hp
    · rw [hp] at hand
      have UP : Hid (zup n = false) := by
        show _ = _
        rw [HZU.out, hp]; rfl
      have hand0 : bits .and .i64 (d : Int) 1 = 0 := hand
      clear hp hand HZU
      go_wp2_with fail
      refine (down_any n j _ _ HN3.out (by have := HLN.out; omega) (by omega)).mono ?_
      rintro ev w4 ⟨v4, rfl, hN4, hb4⟩
      obtain ⟨ao4, la4, ca4, rfl, HL4⟩ := hN4.slice2
      have HB4 : Hid (Below w.heap.size w w4) := HB3.out.trans (hb4.mono HB3.out.size)
      have HQ4 : Hid (NatV w4 (.slice (some ⟨qb, qo, none⟩) ql qc) (n / 2 ^ K)) := HQ3.out.below hb4 (Nat.le_refl _)
      have HK4 : Hid (w4.heap[w.heap.size]? = _) := blk_below HK3.out hb4
      obtain ⟨i00, i01, i02, i03, i04, i05⟩ := blk3 HK4.out
      clear hb4 hN4 HB3 HQ3 HN3 HK3 j00 j01 j02 j03 j04 j05 hhc hhl hhl' hand0
      generalize decide (n % 2 ^ j = 0) = lw at *
      cases lw <;> (
        go_wp2_with fail
        have FIN2 : Hid (zround s n e = packN s (n / 2 ^ K) (e + (K : Int))) := HZ3.out UP.out
        refine (size_any _ _ _ HQ4.out (by have := HLQ.out; omega)).mono ?_
        rintro ev w7 ⟨rfl, rfl⟩
        rw [HS2.out]
        go_wp2_with fail
        refine (packed_any _ (n / 2 ^ K) (e + (K : Int)) _ _ HQ4.out HLB.out.1 HLB.out.2 (by omega) (by omega)).mono ?_
        rintro ev w9 ⟨rfl, hb9⟩
        have HB9 : Hid (Below _ _ w9) := hb9
        clear hb9
        go_wp2
        go_ret2
        exact zround_fin FIN2.out HB4.out HB9.out)
    · rw [hp] at hand
      have hand1 : bits .and .i64 (d : Int) 1 = 1 := hand
      have HZV : Hid (zup n = (!decide (n % 2 ^ j = 0) || decide (n / 2 ^ K % 2 = 1))) := by
        show _ = _
        rw [HZU.out, hp]; rfl
      clear hp hand HZU
      go_wp2_with fail
      refine (down_any n j _ _ HN3.out (by have := HLN.out; omega) (by omega)).mono ?_
      rintro ev w4 ⟨v4, rfl, hN4, hb4⟩
      obtain ⟨ao4, la4, ca4, rfl, HL4⟩ := hN4.slice2
      have HB4 : Hid (Below w.heap.size w w4) := HB3.out.trans (hb4.mono HB3.out.size)
      have HQ4 : Hid (NatV w4 (.slice (some ⟨qb, qo, none⟩) ql qc) (n / 2 ^ K)) := HQ3.out.below hb4 (Nat.le_refl _)
      have HK4 : Hid (w4.heap[w.heap.size]? = _) := blk_below HK3.out hb4
      obtain ⟨i00, i01, i02, i03, i04, i05⟩ := blk3 HK4.out
      clear hb4 hN4 HB3 HQ3 HN3 HK3 j00 j01 j02 j03 j04 j05 hhc hhl hhl' hand1
      cases hlw : decide (n % 2 ^ j = 0)
      · have UP : Hid (zup n = true) := by
          show _ = _
          rw [HZV.out, hlw]; rfl
        clear hlw HZV
        go_wp2_with fail
        refine (nat_any 1 _ (by omega)).mono ?_
        rintro ev w5 ⟨v5, rfl, hN5, hb5⟩
        obtain ⟨ao5, la5, ca5, rfl, HL5⟩ := hN5.slice2
        have HN5 : Hid (NatV w5 _ _) := hN5
        have HQ5 : Hid (NatV w5 (.slice (some ⟨qb, qo, none⟩) ql qc) (n / 2 ^ K)) := HQ4.out.below hb5 (Nat.le_refl _)
        have HK5 : Hid (w5.heap[w.heap.size]? = _) := blk_below HK4.out hb5
        have HB5 : Hid (Below w.heap.size w w5) := HB4.out.trans (hb5.mono HB4.out.size)
        clear hb5 hN5 HQ4 HK4 HB4
        go_wp2_with fail
        refine (plus_any (n / 2 ^ K) 1 _ _ _ HQ5.out HN5.out (by have := HLQ.out; omega) (by decide)).mono ?_
        rintro ev w6 ⟨v6, rfl, hN6, hb6⟩
        obtain ⟨ao6, la6, ca6, rfl, HL6⟩ := hN6.slice2
        have HN6 : Hid (NatV w6 _ _) := hN6
        have HK6 : Hid (w6.heap[w.heap.size]? = _) := blk_below HK5.out hb6
        have HB6 : Hid (Below w.heap.size w w6) := HB5.out.trans (hb6.mono HB5.out.size)
        obtain ⟨i00, i01, i02, i03, i04, i05⟩ := blk3 HK6.out
        clear hb6 hN6 HQ5 HK5 HB5 HN5
        go_wp2_with fail
        by_cases hq : n / 2 ^ K + 1 = 9007199254740992
        · have FIN2 : Hid (zround s n e = packN s 4503599627370496 (e + (K : Int) + 1)) := HZ1.out UP.out hq
          rw [hq] at HN6
          refine (size_any 9007199254740992 _ _ HN6.out (by decide)).mono ?_
          rintro ev w7 ⟨rfl, rfl⟩
          rw [bl54]
          go_wp2_with fail
          refine (down_any 9007199254740992 1 _ _ HN6.out (by decide) (by decide)).mono ?_
          rintro ev w8 ⟨v8, rfl, hN8, hb8⟩
          obtain ⟨ao8, la8, ca8, rfl, HL8⟩ := hN8.slice2
          have HN8 : Hid (NatV w8 _ 4503599627370496) := hN8
          obtain ⟨l00, l01, l02, l03, l04, l05⟩ := blk3 (blk_below HK6.out hb8)
          have HB8 : Hid (Below w.heap.size w w8) := HB6.out.trans (hb8.mono HB6.out.size)
          clear hb8 hN8 i00 i01 i02 i03 i04 i05
          go_wp2_with fail
          refine (packed_any _ 4503599627370496 (e + (K : Int) + 1) _ _ HN8.out (by decide) (by decide) (by omega) (by omega)).mono ?_
          rintro ev w9 ⟨rfl, hb9⟩
          have HB9 : Hid (Below _ _ w9) := hb9
          clear hb9
          go_wp2
          go_ret2
          exact zround_fin FIN2.out HB8.out HB9.out
        · have FIN2 : Hid (zround s n e = packN s (n / 2 ^ K + 1) (e + (K : Int))) := HZ2.out UP.out hq
          have q1 : Hid (n / 2 ^ K + 1 < 9007199254740992) := by show _ < _; have := HLB.out.2; omega
          have q2 : Hid (4503599627370496 ≤ n / 2 ^ K + 1) := by show _ ≤ _; have := HLB.out.1; omega
          have hlq := len_of_bl (n / 2 ^ K + 1)
          rw [bl53 q2.out q1.out] at hlq
          clear hq
          refine (size_any (n / 2 ^ K + 1) _ _ HN6.out (by omega)).mono ?_
          clear hlq
          rintro ev w7 ⟨rfl, rfl⟩
          rw [bl53 q2.out q1.out]
          go_wp2_with fail
          refine (packed_any _ (n / 2 ^ K + 1) (e + (K : Int)) _ _ HN6.out q2.out q1.out (by omega) (by omega)).mono ?_
          rintro ev w9 ⟨rfl, hb9⟩
          have HB9 : Hid (Below _ _ w9) := hb9
          clear hb9
          go_wp2
          go_ret2
          exact zround_fin FIN2.out HB6.out HB9.out
      · obtain ⟨qb', qo', ql', qc', hqe, hq0, hqc⟩ := natV_head HQ4.out (by have := HLB.out.1; omega)
        cases hqe
        have hq0' : (0 : Int) < (ql : Int) := by omega
        have hand := i64_and1z (n / 2 ^ K % 16777216) (by omega)
        rw [show n / 2 ^ K % 16777216 % 2 = n / 2 ^ K % 2 by omega] at hand
        generalize n / 2 ^ K % 16777216 = dq at *
        rcases (show n / 2 ^ K % 2 = 0 ∨ n / 2 ^ K % 2 = 1 by omega) with hp | hp
        · rw [hp] at hand
          have UP : Hid (zup n = false) := by
            show _ = _
            rw [HZV.out, hlw, hp]; rfl
          have hand0 : bits .and .i64 (dq : Int) 1 = 0 := hand
          clear hp hand HZV hlw
          go_wp2_with fail
          have FIN2 : Hid (zround s n e = packN s (n / 2 ^ K) (e + (K : Int))) := HZ3.out UP.out
          refine (size_any _ _ _ HQ4.out (by have := HLQ.out; omega)).mono ?_
          rintro ev w7 ⟨rfl, rfl⟩
          rw [HS2.out]
          go_wp2_with fail
          refine (packed_any _ (n / 2 ^ K) (e + (K : Int)) _ _ HQ4.out HLB.out.1 HLB.out.2 (by omega) (by omega)).mono ?_
          rintro ev w9 ⟨rfl, hb9⟩
          have HB9 : Hid (Below _ _ w9) := hb9
          clear hb9
          go_wp2
          go_ret2
          exact zround_fin FIN2.out HB4.out HB9.out
        · rw [hp] at hand
          have UP : Hid (zup n = true) := by
            show _ = _
            rw [HZV.out, hlw, hp]; rfl
          have hand0 : bits .and .i64 (dq : Int) 1 = 1 := hand
          clear hp hand HZV hlw
          go_wp2_with fail
          refine (nat_any 1 _ (by omega)).mono ?_
          rintro ev w5 ⟨v5, rfl, hN5, hb5⟩
          obtain ⟨ao5, la5, ca5, rfl, HL5⟩ := hN5.slice2
          have HN5 : Hid (NatV w5 _ _) := hN5
          have HQ5 : Hid (NatV w5 (.slice (some ⟨qb, qo, none⟩) ql qc) (n / 2 ^ K)) := HQ4.out.below hb5 (Nat.le_refl _)
          have HK5 : Hid (w5.heap[w.heap.size]? = _) := blk_below HK4.out hb5
          have HB5 : Hid (Below w.heap.size w w5) := HB4.out.trans (hb5.mono HB4.out.size)
          clear hb5 hN5 HQ4 HK4 HB4
          go_wp2_with fail
          refine (plus_any (n / 2 ^ K) 1 _ _ _ HQ5.out HN5.out (by have := HLQ.out; omega) (by decide)).mono ?_
          rintro ev w6 ⟨v6, rfl, hN6, hb6⟩
          obtain ⟨ao6, la6, ca6, rfl, HL6⟩ := hN6.slice2
          have HN6 : Hid (NatV w6 _ _) := hN6
          have HK6 : Hid (w6.heap[w.heap.size]? = _) := blk_below HK5.out hb6
          have HB6 : Hid (Below w.heap.size w w6) := HB5.out.trans (hb6.mono HB5.out.size)
          obtain ⟨i00, i01, i02, i03, i04, i05⟩ := blk3 HK6.out
          clear hb6 hN6 HQ5 HK5 HB5 HN5
          go_wp2_with fail
          by_cases hq : n / 2 ^ K + 1 = 9007199254740992
          · have FIN2 : Hid (zround s n e = packN s 4503599627370496 (e + (K : Int) + 1)) := HZ1.out UP.out hq
            rw [hq] at HN6
            refine (size_any 9007199254740992 _ _ HN6.out (by decide)).mono ?_
            rintro ev w7 ⟨rfl, rfl⟩
            rw [bl54]
            go_wp2_with fail
            refine (down_any 9007199254740992 1 _ _ HN6.out (by decide) (by decide)).mono ?_
            rintro ev w8 ⟨v8, rfl, hN8, hb8⟩
            obtain ⟨ao8, la8, ca8, rfl, HL8⟩ := hN8.slice2
            have HN8 : Hid (NatV w8 _ 4503599627370496) := hN8
            obtain ⟨l00, l01, l02, l03, l04, l05⟩ := blk3 (blk_below HK6.out hb8)
            have HB8 : Hid (Below w.heap.size w w8) := HB6.out.trans (hb8.mono HB6.out.size)
            clear hb8 hN8 i00 i01 i02 i03 i04 i05
            go_wp2_with fail
            refine (packed_any _ 4503599627370496 (e + (K : Int) + 1) _ _ HN8.out (by decide) (by decide) (by omega) (by omega)).mono ?_
            rintro ev w9 ⟨rfl, hb9⟩
            have HB9 : Hid (Below _ _ w9) := hb9
            clear hb9
            go_wp2
            go_ret2
            exact zround_fin FIN2.out HB8.out HB9.out
          · have FIN2 : Hid (zround s n e = packN s (n / 2 ^ K + 1) (e + (K : Int))) := HZ2.out UP.out hq
            have q1 : Hid (n / 2 ^ K + 1 < 9007199254740992) := by show _ < _; have := HLB.out.2; omega
            have q2 : Hid (4503599627370496 ≤ n / 2 ^ K + 1) := by show _ ≤ _; have := HLB.out.1; omega
            have hlq := len_of_bl (n / 2 ^ K + 1)
            rw [bl53 q2.out q1.out] at hlq
            clear hq
            refine (size_any (n / 2 ^ K + 1) _ _ HN6.out (by omega)).mono ?_
            clear hlq
            rintro ev w7 ⟨rfl, rfl⟩
            rw [bl53 q2.out q1.out]
            go_wp2_with fail
            refine (packed_any _ (n / 2 ^ K + 1) (e + (K : Int)) _ _ HN6.out q2.out q1.out (by omega) (by omega)).mono ?_
            rintro ev w9 ⟨rfl, hb9⟩
            have HB9 : Hid (Below _ _ w9) := hb9
            clear hb9
            go_wp2
            go_ret2
            exact zround_fin FIN2.out HB6.out HB9.out
end Go.Proofs.YtonhpkigoplmaaaGreatDoor
namespace Go.Proofs.YtonhpkigoplmaaaGreatDoor
open Go.RowKit

theorem zround_any (x : Value) (s : Bool) (n : Nat) (e : Int) (w : World) (hx : NumV w x s n e) (hn : bl n ≤ 100000) (he1 : -200000 ≤ e) (he2 : e ≤ 200000) :
    Calls Tryz.prog 115 #[x, .int .i64 0] w fun ev w' => ZRoundR s n e w ev w' := by
  by_cases h : bl n ≤ 53
  · refine (round_short x s n e 0 w hx h he1 he2).mono ?_
    rintro ev w' ⟨h1, h2⟩
    have e1 : zround s n e = roundN s n e 0 := by
      unfold zround roundN mant
      by_cases h0 : n = 0
      · rw [if_pos h0, if_pos h0]
      · rw [if_neg h0, if_neg h0, if_pos h, if_pos h]
    unfold ZRoundR
    rw [e1]
    exact ⟨h1, h2⟩
  · exact zround_long x s n e w hx (by omega) hn he1 he2

theorem zup_nup {n : Nat} (h : 53 < bl n) : zup n = nup n := by
  unfold zup nup
  rw [decide_eq_true h, Bool.true_and]
  have hK : bl n - 53 = (bl n - 54) + 1 := by omega
  rw [hK]
  generalize bl n - 54 = j
  have hp := Nat.two_pow_pos j
  have e1 : n % 2 ^ (j + 1) = n % 2 ^ j + 2 ^ j * (n / 2 ^ j % 2) := Nat.mod_pow_succ
  have hl := Nat.mod_lt n hp
  rw [e1, Nat.pow_succ]
  generalize n % 2 ^ j = r at *
  generalize n / (2 ^ j * 2) % 2 = q
  rcases (show n / 2 ^ j % 2 = 0 ∨ n / 2 ^ j % 2 = 1 by omega) with hb | hb
  · rw [hb]
    clear e1 hb hK h
    generalize 2 ^ j = g at *
    rw [Bool.eq_iff_iff]
    simp only [Bool.and_eq_true, Bool.or_eq_true, decide_eq_true_eq, beq_iff_eq, Bool.not_eq_true', decide_eq_false_iff_not]
    omega
  · rw [hb]
    clear e1 hb hK h
    generalize 2 ^ j = g at *
    rw [Bool.eq_iff_iff]
    simp only [Bool.and_eq_true, Bool.or_eq_true, decide_eq_true_eq, beq_iff_eq, Bool.not_eq_true', decide_eq_false_iff_not]
    have e2 : (g * 2 < 2 * (r + g * 1)) ↔ r ≠ 0 := by omega
    have e3 : (g * 2 = 2 * (r + g * 1)) ↔ r = 0 := by omega
    rw [e2, e3]
    by_cases hr : r = 0
    · simp [hr]
    · simp [hr]

theorem zround_rung (s : Bool) {n : Nat} (e : Int) (h0 : n ≠ 0) : zround s n e = rngW s (rung n e + if nup n then 1 else 0) := by
  unfold zround
  rw [if_neg h0]
  by_cases hb : bl n ≤ 53
  · rw [if_pos hb]
    have hn : nup n = false := nup_rep (inex_small hb)
    have hs := short_bounds (Nat.pos_of_ne_zero h0) hb
    rw [hn, packN_rung s hs.1 hs.2]
    unfold rung mf
    rw [if_pos hb]
    congr 1
    simp only [Bool.false_eq_true, if_false, Int.add_zero]
    congr 1
    congr 1
    omega
  · rw [if_neg hb, zup_nup (by omega)]
    have hl := long_bounds (show 53 < bl n by omega)
    have hm : mf n = n / 2 ^ (bl n - 53) := by unfold mf; rw [if_neg hb]
    cases hu : nup n
    · rw [if_neg Bool.false_ne_true, packN_rung s hl.1 hl.2]
      unfold rung
      rw [hm, if_neg Bool.false_ne_true]
      congr 1
      generalize n / 2 ^ (bl n - 53) = q at *
      omega
    · rw [if_pos rfl, if_pos rfl]
      by_cases hq : n / 2 ^ (bl n - 53) + 1 = 9007199254740992
      · rw [if_pos hq, packN_rung s (by omega) (by omega)]
        unfold rung
        rw [hm]
        congr 1
        generalize n / 2 ^ (bl n - 53) = q at *
        omega
      · rw [if_neg hq, packN_rung s (by omega) (by omega)]
        unfold rung
        rw [hm]
        congr 1
        generalize n / 2 ^ (bl n - 53) = q at *
        omega
end Go.Proofs.YtonhpkigoplmaaaGreatDoor
namespace Go.Proofs.YtonhpkigoplmaaaGreatDoor
open Go.RowKit Go.Extern Ieee

/-- The nearest float's number. -/
def nearI (n : Int) : Int := sg (decide (n < 0)) (nearM n.natAbs)

end Go.Proofs.YtonhpkigoplmaaaGreatDoor
