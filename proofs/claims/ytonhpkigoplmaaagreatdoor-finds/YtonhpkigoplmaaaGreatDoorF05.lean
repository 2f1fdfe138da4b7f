/-
  RndP, RoundZ, RoundY, WholeF, TwoM, TwoS, PosM.
-/
import Derived.Test.YtonhpkigoplmaaaGreatDoorF04
namespace Go.Proofs.YtonhpkigoplmaaaGreatDoor
open Go.RowKit Go.Extern Ieee

/-- On which side of its nearest float a number lies. -/
def side (s : Bool) (n : Nat) : Ordering := if inex n = false then .eq else if s = nup n then .gt else .lt

theorem nup_inex {n : Nat} (h : nup n = true) : inex n = true := by
  cases hi : inex n
  · rw [nup_rep hi] at h; cases h
  · rfl

theorem around_round (s : Bool) (n : Nat) (e : Int) (q : Nat) (w : World) (h0 : n ≠ 0) (h1 : -1021 ≤ e + bl n) (h2 : e + bl n ≤ 1022) (hq : FloatKind.f64.format.order q 0 = some (side s n)) :
    Calls Tryz.prog 141 #[.float .f64 (double.nearest s n e), .float .f64 q] w fun ev w' => ev = .returned (.agg #[.float .f64 (wd s (rung n e + if offS s (-1) && inex n then 1 else 0).toNat), .float .f64 (wd s (rung n e + if offS s 1 && inex n then 1 else 0).toNat)]) ∧ Below w.heap.size w w' := by
  have hnr := nearest_rung s h0 h1 (by omega)
  have hm := mf_bounds (Nat.pos_of_ne_zero h0)
  obtain ⟨R, hR⟩ : ∃ R : Nat, rung n e = (R : Int) ∧ 0 < R ∧ R + 1 < 9218868437227405312 := by
    refine ⟨(rung n e).toNat, ?_⟩
    unfold rung
    omega
  obtain ⟨hR, r0, r1⟩ := hR
  rw [hR] at hnr ⊢
  have hcast : ∀ b : Bool, ((R : Int) + if b = true then 1 else 0).toNat = R + (if b = true then 1 else 0) := by
    intro b; cases b <;> simp
  rw [hcast] at hnr
  rw [hcast, hcast]
  have hnw : double.nearest s n e = wd s (R + if nup n = true then 1 else 0) := hnr
  rw [hnw]
  cases hi : inex n
  · have hn : nup n = false := nup_rep hi
    have hs : side s n = .eq := by unfold side; rw [if_pos hi]
    rw [hs] at hq
    have := aroundF_eq (wd s R) q w hq
    simpa [hn] using this
  · cases hn : nup n
    · cases s
      · have hs : side false n = .gt := by unfold side; rw [hi, hn]; rfl
        rw [hs] at hq
        have := aroundF_pos false R q w hq (by omega) r0
        simpa [offS] using this
      · have hs : side true n = .lt := by unfold side; rw [hi, hn]; rfl
        rw [hs] at hq
        have := aroundF_neg true R q w hq (by omega) r0
        simpa [offS] using this
    · cases s
      · have hs : side false n = .lt := by unfold side; rw [hi, hn]; rfl
        rw [hs] at hq
        have := aroundF_neg false (R + 1) q w hq (by omega) (by omega)
        simpa [offS] using this
      · have hs : side true n = .gt := by unfold side; rw [hi, hn]; rfl
        rw [hs] at hq
        have := aroundF_pos true (R + 1) q w hq (by omega) (by omega)
        simpa [offS] using this

/-- The amount of the nearest float (of as great a power of two). -/
def nearM (n : Nat) : Nat := if bl n ≤ 53 then n else (mf n + if nup n then 1 else 0) * 2 ^ (bl n - 53)

theorem inex_small {n : Nat} (h : bl n ≤ 53) : inex n = false := by
  unfold inex; rw [decide_eq_false]; omega

theorem nearM_facts {n : Nat} (h0 : n ≠ 0) : nearM n ≠ 0 ∧ inex (nearM n) = false ∧ (∀ e, rung (nearM n) e = rung n e + if nup n then 1 else 0) ∧ bl (nearM n) ≤ bl n + 1 := by
  unfold nearM
  by_cases hb : bl n ≤ 53
  · rw [if_pos hb]
    have hn : nup n = false := nup_rep (inex_small hb)
    refine ⟨h0, inex_small hb, ?_, by omega⟩
    intro e; rw [hn]; simp
  · rw [if_neg hb]
    obtain ⟨m1, m2⟩ := mf_bounds (Nat.pos_of_ne_zero h0)
    have hx : ∀ x : Nat, 4503599627370496 ≤ x → x < 9007199254740992 → x * 2 ^ (bl n - 53) ≠ 0 ∧ inex (x * 2 ^ (bl n - 53)) = false ∧ (∀ e : Int, rung (x * 2 ^ (bl n - 53)) e = (e + bl n + 1021) * 4503599627370496 + (x : Int)) ∧ bl (x * 2 ^ (bl n - 53)) ≤ bl n + 1 := by
      intro x x1 x2
      have hx0 : x ≠ 0 := by omega
      have hbx := bl53 x1 x2
      refine ⟨Nat.mul_ne_zero hx0 (Nat.pos_iff_ne_zero.1 (Nat.two_pow_pos _)), inex_shift hx0 _ (inex_small (by omega)), ?_, by rw [bl_shift hx0]; omega⟩
      intro e
      unfold rung
      rw [mf_shift hx0, bl_shift hx0, hbx]
      have : mf x = x := by unfold mf; rw [if_pos (by omega), hbx]; simp
      rw [this]
      congr 2
      omega
    cases hn : nup n
    · have := hx (mf n) m1 m2
      simpa [rung] using this
    · by_cases hc : mf n + 1 < 9007199254740992
      · have := hx (mf n + 1) (by omega) hc
        simp only [if_true]
        refine ⟨this.1, this.2.1, ?_, this.2.2.2⟩
        intro e
        rw [this.2.2.1]
        unfold rung
        omega
      · have hm : mf n + 1 = 9007199254740992 := by omega
        simp only [if_true]
        rw [hm]
        have hb54 := bl54
        have h54 : (9007199254740992 : Nat) ≠ 0 := by decide
        have hmf : mf 9007199254740992 = 4503599627370496 := by unfold mf; rw [hb54]; rfl
        refine ⟨Nat.mul_ne_zero h54 (Nat.pos_iff_ne_zero.1 (Nat.two_pow_pos _)), inex_shift h54 _ (by unfold inex; rw [hb54]; rfl), ?_, by rw [bl_shift h54]; omega⟩
        intro e
        unfold rung
        rw [mf_shift h54, bl_shift h54, hb54, hmf]
        omega

theorem nearM_cmp (n : Nat) : (inex n = false → nearM n = n) ∧ (inex n = true → nup n = true → n < nearM n) ∧ (inex n = true → nup n = false → nearM n < n) ∧ n ≤ nearM n + 2 ^ (bl n - 53) ∧ nearM n ≤ n + 2 ^ (bl n - 53) := by
  unfold nearM
  by_cases hb : bl n ≤ 53
  · rw [if_pos hb]
    have hi := inex_small hb
    refine ⟨fun _ => rfl, fun h => (by rw [hi] at h; cases h), fun h => (by rw [hi] at h; cases h), Nat.le_add_right _ _, Nat.le_add_right _ _⟩
  · rw [if_neg hb]
    have hmf : mf n = n / 2 ^ (bl n - 53) := by unfold mf; rw [if_neg hb]
    have hix : inex n = decide (n % 2 ^ (bl n - 53) ≠ 0) := by unfold inex; simp [show 53 < bl n by omega]
    have hd := Nat.div_add_mod n (2 ^ (bl n - 53))
    have hl := Nat.mod_lt n (Nat.two_pow_pos (bl n - 53))
    rw [hmf]
    cases hn : nup n
    · rw [if_neg Bool.false_ne_true, Nat.add_zero]
      rw [Nat.mul_comm] at hd
      generalize n / 2 ^ (bl n - 53) * 2 ^ (bl n - 53) = A at *
      generalize n % 2 ^ (bl n - 53) = r at *
      generalize 2 ^ (bl n - 53) = g at *
      refine ⟨fun h => ?_, fun _ h => (by cases h), fun h _ => ?_, by omega, by omega⟩
      · rw [hix, decide_eq_false_iff_not] at h; omega
      · rw [hix, decide_eq_true_eq] at h; omega
    · have hi := nup_inex hn
      rw [if_pos rfl, Nat.add_mul, Nat.one_mul]
      rw [Nat.mul_comm] at hd
      generalize n / 2 ^ (bl n - 53) * 2 ^ (bl n - 53) = A at *
      generalize n % 2 ^ (bl n - 53) = r at *
      generalize 2 ^ (bl n - 53) = g at *
      refine ⟨fun h => (by rw [hi] at h; cases h), fun _ _ => by omega, fun _ h => (by cases h), by omega, by omega⟩

/-- A float's sign. -/
theorem ord_fd {e z : Int} (hf : Fits e z) (h2 : e + bl z.natAbs ≤ 1022) : FloatKind.f64.format.order (fd e z) 0 = some (if z = 0 then .eq else if z < 0 then .lt else .gt) := by
  by_cases h0 : z = 0
  · subst h0; rw [fd_zero]; rfl
  · have hn : z.natAbs ≠ 0 := by omega
    have hm := mf_bounds (Nat.pos_of_ne_zero hn)
    have f1 := hf.1
    have hb := bl_pos (Nat.pos_of_ne_zero hn)
    rw [fd_wd h0 hf, if_neg h0, ord_zero (by unfold rung; split <;> omega) (by unfold rung; split <;> omega)]
    by_cases hz : z < 0
    · rw [decide_eq_true hz, if_pos rfl, if_pos hz]
    · rw [decide_eq_false hz, if_neg Bool.false_ne_true, if_neg hz]
end Go.Proofs.YtonhpkigoplmaaaGreatDoor
namespace Go.Proofs.YtonhpkigoplmaaaGreatDoor
open Go.RowKit

/-- Up, by the half and what is below it. -/
def zup (n : Nat) : Bool := decide (n / 2 ^ (bl n - 54) % 2 = 1) && (!decide (n % 2 ^ (bl n - 54) = 0) || decide (n / 2 ^ (bl n - 53) % 2 = 1))

/-- What Round gives, to the nearest. -/
def zround (s : Bool) (n : Nat) (e : Int) : Nat × Bool :=
  if n = 0 then (0, true)
  else if bl n ≤ 53 then packN s (n * 2 ^ (53 - bl n)) (e + ((bl n : Int) - 53))
  else if zup n = true then
    (if n / 2 ^ (bl n - 53) + 1 = 9007199254740992 then packN s 4503599627370496 (e + ((bl n - 53 : Nat) : Int) + 1) else packN s (n / 2 ^ (bl n - 53) + 1) (e + ((bl n - 53 : Nat) : Int)))
  else packN s (n / 2 ^ (bl n - 53)) (e + ((bl n - 53 : Nat) : Int))

end Go.Proofs.YtonhpkigoplmaaaGreatDoor
namespace Go.Proofs.YtonhpkigoplmaaaGreatDoor
open Go.RowKit

theorem zup_nup {n : Nat} (h : 53 < bl n) : zup n = nup n := by
  unfold zup nup
  rw [decide_eq_true h, Bool.true_and]
  have hK : bl n - 53 = (bl n - 54) + 1 := by omega
  rw [hK]
  generalize bl n - 54 = j
  have hp := Nat.two_pow_pos j
  have e1 : n % 2 ^ (j + 1) = n % 2 ^ j + 2 ^ j * (n / 2 ^ j % 2) := Nat.mod_pow_succ
  have hl := Nat.mod_lt n hp
  rw [e1, Nat.pow_succ]
  generalize n % 2 ^ j = r at *
  generalize n / (2 ^ j * 2) % 2 = q
  rcases (show n / 2 ^ j % 2 = 0 ∨ n / 2 ^ j % 2 = 1 by omega) with hb | hb
  · rw [hb]
    clear e1 hb hK h
    generalize 2 ^ j = g at *
    rw [Bool.eq_iff_iff]
    simp only [Bool.and_eq_true, Bool.or_eq_true, decide_eq_true_eq, beq_iff_eq, Bool.not_eq_true', decide_eq_false_iff_not]
    omega
  · rw [hb]
    clear e1 hb hK h
    generalize 2 ^ j = g at *
    rw [Bool.eq_iff_iff]
    simp only [Bool.and_eq_true, Bool.or_eq_true, decide_eq_true_eq, beq_iff_eq, Bool.not_eq_true', decide_eq_false_iff_not]
    have e2 : (g * 2 < 2 * (r + g * 1)) ↔ r ≠ 0 := by omega
    have e3 : (g * 2 = 2 * (r + g * 1)) ↔ r = 0 := by omega
    rw [e2, e3]
    by_cases hr : r = 0
    · simp [hr]
    · simp [hr]

theorem zround_rung (s : Bool) {n : Nat} (e : Int) (h0 : n ≠ 0) : zround s n e = rngW s (rung n e + if nup n then 1 else 0) := by
  unfold zround
  rw [if_neg h0]
  by_cases hb : bl n ≤ 53
  · rw [if_pos hb]
    have hn : nup n = false := nup_rep (inex_small hb)
    have hs := short_bounds (Nat.pos_of_ne_zero h0) hb
    rw [hn, packN_rung s hs.1 hs.2]
    unfold rung mf
    rw [if_pos hb]
    congr 1
    simp only [Bool.false_eq_true, if_false, Int.add_zero]
    congr 1
    congr 1
    omega
  · rw [if_neg hb, zup_nup (by omega)]
    have hl := long_bounds (show 53 < bl n by omega)
    have hm : mf n = n / 2 ^ (bl n - 53) := by unfold mf; rw [if_neg hb]
    cases hu : nup n
    · rw [if_neg Bool.false_ne_true, packN_rung s hl.1 hl.2]
      unfold rung
      rw [hm, if_neg Bool.false_ne_true]
      congr 1
      generalize n / 2 ^ (bl n - 53) = q at *
      omega
    · rw [if_pos rfl, if_pos rfl]
      by_cases hq : n / 2 ^ (bl n - 53) + 1 = 9007199254740992
      · rw [if_pos hq, packN_rung s (by omega) (by omega)]
        unfold rung
        rw [hm]
        congr 1
        generalize n / 2 ^ (bl n - 53) = q at *
        omega
      · rw [if_neg hq, packN_rung s (by omega) (by omega)]
        unfold rung
        rw [hm]
        congr 1
        generalize n / 2 ^ (bl n - 53) = q at *
        omega
end Go.Proofs.YtonhpkigoplmaaaGreatDoor
namespace Go.Proofs.YtonhpkigoplmaaaGreatDoor
open Go.RowKit Go.Extern Ieee

theorem fits_small {z : Int} (h : z.natAbs < 2 ^ 70) : Fits 0 z ∧ (0 : Int) + bl z.natAbs ≤ 1022 := by
  have := bl_le h
  exact ⟨⟨by omega, by omega⟩, by omega⟩

theorem rep_small {z : Int} (h : z.natAbs < 2 ^ 53) : Rep z := inex_small (bl_le h)

/-- The nearest float's number. -/
def nearI (n : Int) : Int := sg (decide (n < 0)) (nearM n.natAbs)

theorem nearI_facts {n : Int} (h0 : n ≠ 0) (hb : n.natAbs < 2 ^ 65) : Rep (nearI n) ∧ fd 0 (nearI n) = fd 0 n ∧ (nearI n).natAbs < 2 ^ 67 ∧ (n - nearI n).natAbs ≤ 4096 ∧ (if n - nearI n = 0 then Ordering.eq else if n - nearI n < 0 then .lt else .gt) = side (decide (n < 0)) n.natAbs := by
  have hn : n.natAbs ≠ 0 := by omega
  obtain ⟨f1, f2, f3, f4⟩ := nearM_facts hn
  obtain ⟨c1, c2, c3, c4, c5⟩ := nearM_cmp n.natAbs
  have hbl := bl_le hb
  have hg : 2 ^ (bl n.natAbs - 53) ≤ 4096 := by
    have : (2 : Nat) ^ (bl n.natAbs - 53) ≤ 2 ^ 12 := Nat.pow_le_pow_right (by decide) (by omega)
    exact this
  have habs : (nearI n).natAbs = nearM n.natAbs := by unfold nearI; exact (sg_natAbs rfl).symm
  have hsgn : (n < 0 → nearI n = -(nearM n.natAbs : Int)) ∧ (¬ n < 0 → nearI n = (nearM n.natAbs : Int)) := by
    unfold nearI sg
    constructor
    · intro h; rw [decide_eq_true h, if_pos rfl]
    · intro h; rw [decide_eq_false h, if_neg Bool.false_ne_true]
  have hNlt : decide (nearI n < 0) = decide (n < 0) := by
    apply decide_eq_decide.2
    by_cases h : n < 0
    · have := hsgn.1 h; omega
    · have := hsgn.2 h; omega
  have hNb : bl (nearM n.natAbs) ≤ 66 := by omega
  have hlt67 : nearM n.natAbs < 2 ^ 67 := by
    have := (bl_bounds (Nat.pos_of_ne_zero f1)).2.1
    exact Nat.lt_of_lt_of_le this (Nat.pow_le_pow_right (by decide) (by omega))
  refine ⟨?_, ?_, by rw [habs]; exact hlt67, ?_, ?_⟩
  · show inex (nearI n).natAbs = false
    rw [habs]; exact f2
  · have hN0 : nearI n ≠ 0 := by omega
    have hp1 := bl_pos (Nat.pos_of_ne_zero f1)
    rw [fd_wd hN0 ⟨by omega, by rw [habs]; omega⟩, fd_wd h0 ⟨by omega, by omega⟩, habs, hNlt, nup_rep f2, f3]
    simp
  · by_cases h : n < 0
    · have := hsgn.1 h; omega
    · have := hsgn.2 h; omega
  · unfold side
    by_cases h : n < 0
    · have hs := hsgn.1 h
      rw [decide_eq_true h]
      cases hi : inex n.natAbs
      · have := c1 hi
        rw [if_pos (by omega), if_pos rfl]
      · rw [if_neg (show ¬ true = false by simp)]
        cases hu : nup n.natAbs
        · have := c3 hi hu
          rw [if_neg (by omega), if_pos (by omega)]; rfl
        · have := c2 hi hu
          rw [if_neg (by omega), if_neg (by omega)]; rfl
    · have hs := hsgn.2 h
      rw [decide_eq_false h]
      cases hi : inex n.natAbs
      · have := c1 hi
        rw [if_pos (by omega), if_pos rfl]
      · rw [if_neg (show ¬ true = false by simp)]
        cases hu : nup n.natAbs
        · have := c3 hi hu
          rw [if_neg (by omega), if_neg (by omega)]; rfl
        · have := c2 hi hu
          rw [if_neg (by omega), if_pos (by omega)]; rfl

/-- A multiple of 2048 is a float. -/
theorem rep_high {x : Int} (h : x.natAbs ≤ 2 ^ 63) (hm : x.natAbs % 2048 = 0) : Rep x := by
  show inex x.natAbs = false
  have hb := bl_le (n := x.natAbs) (k := 64) (by have : (2 : Nat) ^ 63 < 2 ^ 64 := by decide
                                                 omega)
  unfold inex
  rw [decide_eq_false_iff_not]
  rintro ⟨h1, h2⟩
  apply h2
  obtain ⟨k, hk⟩ : ∃ k, bl x.natAbs - 53 + k = 11 := ⟨11 - (bl x.natAbs - 53), by omega⟩
  have e : (2048 : Nat) = 2 ^ (bl x.natAbs - 53) * 2 ^ k := by rw [← Nat.pow_add, hk]
  have : x.natAbs % 2048 % 2 ^ (bl x.natAbs - 53) = x.natAbs % 2 ^ (bl x.natAbs - 53) := by rw [e, Nat.mod_mul_right_mod]
  rw [← this, hm, Nat.zero_mod]

/-- The two ends around a whole number. -/
def wholeLo (n : Int) : Nat := if n = 0 then 0 else wd (decide (n < 0)) (rung n.natAbs 0 + if offS (decide (n < 0)) (-1) && inex n.natAbs then 1 else 0).toNat
def wholeHi (n : Int) : Nat := if n = 0 then 0 else wd (decide (n < 0)) (rung n.natAbs 0 + if offS (decide (n < 0)) 1 && inex n.natAbs then 1 else 0).toNat

theorem sum_whole (n x y : Int) (w : World) (hn : n.natAbs ≤ 2 ^ 63) (hxy : n = x + y) (hx : x.natAbs ≤ 2 ^ 63) (hxm : x.natAbs % 2048 = 0) (hy : y.natAbs < 2048) :
    Calls Tryz.prog 89 #[.float .f64 (fd 0 x), .float .f64 (fd 0 y)] w fun e w' => e = .returned (.agg #[.float .f64 (wholeLo n), .float .f64 (wholeHi n)]) ∧ Below w.heap.size w w' := by
  have p63 : (2 : Nat) ^ 63 = 9223372036854775808 := by decide
  have p65 : (2 : Nat) ^ 65 = 36893488147419103232 := by decide
  have p67 : (2 : Nat) ^ 67 = 147573952589676412928 := by decide
  have p70 : (2 : Nat) ^ 70 = 1180591620717411303424 := by decide
  have p53' := p53
  have fz : ∀ z : Int, z.natAbs < 1180591620717411303424 → Fits 0 z := fun z h => (fits_small (by rw [p70]; exact h)).1
  have rz : ∀ z : Int, z.natAbs < 9007199254740992 → Rep z := fun z h => rep_small (by rw [p53]; exact h)
  have rx : Rep x := rep_high hx hxm
  rw [p63] at hn hx
  by_cases h0 : n = 0
  · have ex : wholeLo n = 0 := by unfold wholeLo; rw [if_pos h0]
    have ey : wholeHi n = 0 := by unfold wholeHi; rw [if_pos h0]
    have h1 := add_fd (e := 0) (x := x) (y := y) (fz _ (by omega)) (fz _ (by omega)) rx (rz _ (by omega)) (fz _ (by omega))
    have h2 := sub_fd (e := 0) (x := x + y) (y := x) (fz _ (by omega)) (fz _ (by omega)) (rz _ (by omega)) rx (fz _ (by omega))
    have h3 := sub_fd (e := 0) (x := x + y) (y := x + y - x) (fz _ (by omega)) (fz _ (by omega)) (rz _ (by omega)) (rz _ (by omega)) (fz _ (by omega))
    have h4 := sub_fd (e := 0) (x := x) (y := x + y - (x + y - x)) (fz _ (by omega)) (fz _ (by omega)) rx (by rw [show x + y - (x + y - x) = x by omega]; exact rx) (fz _ (by omega))
    have h5 := sub_fd (e := 0) (x := y) (y := x + y - x) (fz _ (by omega)) (fz _ (by omega)) (rz _ (by omega)) (rz _ (by omega)) (fz _ (by omega))
    have h6 := add_fd (e := 0) (x := x - (x + y - (x + y - x))) (y := y - (x + y - x)) (fz _ (by omega)) (fz _ (by omega)) (rz _ (by omega)) (rz _ (by omega)) (fz _ (by omega))
    refine sumF_any _ _ _ _ _ _ _ _ _ _ w h1 h2 h3 h4 h5 h6 ?_
    intro w
    rw [ex, ey, show x + y = 0 by omega, fd_zero, show x - (0 - (0 - x)) + (y - (0 - x)) = 0 by omega, fd_zero]
    exact aroundF_eq 0 0 w rfl
  · obtain ⟨n1, n2, n3, n4, n5⟩ := nearI_facts h0 (by rw [p65]; omega)
    rw [p67] at n3
    generalize hN : nearI n = N at *
    have h1 := add_fd (e := 0) (x := x) (y := y) (fz _ (by omega)) (fz _ (by omega)) rx (rz _ (by omega)) (fz _ (by omega))
    rw [← hxy, ← n2] at h1
    have h2 := sub_fd (e := 0) (x := N) (y := x) (fz _ (by omega)) (fz _ (by omega)) n1 rx (fz _ (by omega))
    have h3 := sub_fd (e := 0) (x := N) (y := N - x) (fz _ (by omega)) (fz _ (by omega)) n1 (rz _ (by omega)) (fz _ (by omega))
    have h4 := sub_fd (e := 0) (x := x) (y := N - (N - x)) (fz _ (by omega)) (fz _ (by omega)) rx (by rw [show N - (N - x) = x by omega]; exact rx) (fz _ (by omega))
    have h5 := sub_fd (e := 0) (x := y) (y := N - x) (fz _ (by omega)) (fz _ (by omega)) (rz _ (by omega)) (rz _ (by omega)) (fz _ (by omega))
    have h6 := add_fd (e := 0) (x := x - (N - (N - x))) (y := y - (N - x)) (fz _ (by omega)) (fz _ (by omega)) (rz _ (by omega)) (rz _ (by omega)) (fz _ (by omega))
    refine sumF_any _ _ _ _ _ _ _ _ _ _ w h1 h2 h3 h4 h5 h6 ?_
    intro w
    rw [show x - (N - (N - x)) + (y - (N - x)) = n - N by omega, n2]
    have hb := bl_le (n := n.natAbs) (k := 65) (by rw [p65]; omega)
    have hbp := bl_pos (n := n.natAbs) (by omega)
    have hq := ord_fd (e := 0) (z := n - N) (fz _ (by omega)) (by have := bl_le (n := (n - N).natAbs) (k := 70) (by rw [p70]; omega); omega)
    rw [n5] at hq
    have := around_round (decide (n < 0)) n.natAbs 0 _ w (by omega) (by omega) (by omega) hq
    unfold wholeLo wholeHi
    rw [if_neg h0, if_neg h0]
    exact this
end Go.Proofs.YtonhpkigoplmaaaGreatDoor
namespace Go.Proofs.YtonhpkigoplmaaaGreatDoor
open Go.RowKit Go.Extern Ieee

/-- A power of two. -/
def Pw (h : Int) : Prop := ∃ k : Nat, h = ((2 ^ k : Nat) : Int)

theorem Pw.pos {h : Int} (p : Pw h) : 0 < h := by
  obtain ⟨k, rfl⟩ := p
  exact_mod_cast Nat.two_pow_pos k

theorem Pw.dvd {g h : Int} (pg : Pw g) (ph : Pw h) (hle : g ≤ h) : g ∣ h := by
  obtain ⟨k, rfl⟩ := pg
  obtain ⟨l, rfl⟩ := ph
  have : (2 : Nat) ^ k ≤ 2 ^ l := by exact_mod_cast hle
  have hkl : k ≤ l := (Nat.pow_le_pow_iff_right (by decide)).1 this
  exact Int.natCast_dvd_natCast.2 (Nat.pow_dvd_pow 2 hkl)

theorem Pw.two {h : Int} (p : Pw h) : Pw (2 * h) := by
  obtain ⟨k, rfl⟩ := p
  exact ⟨k + 1, by rw [Nat.pow_succ, Int.natCast_mul, Int.mul_comm]; rfl⟩

theorem bl_gt {n k : Nat} (h : 2 ^ k ≤ n) : k < bl n := by
  have h0 : 0 < n := Nat.lt_of_lt_of_le (Nat.two_pow_pos k) h
  have := (bl_bounds h0).2.1
  exact (Nat.pow_lt_pow_iff_right (by decide)).1 (Nat.lt_of_le_of_lt h this)

theorem inex_full {m : Nat} (h : m ≤ 9007199254740992) : inex m = false := by
  by_cases h2 : m = 9007199254740992
  · subst h2; unfold inex; rw [bl54]; rfl
  · exact inex_small (bl_le (by rw [p53]; omega))

theorem rep_pw {x h : Int} (p : Pw h) (hd : h ∣ x) (hb : x.natAbs ≤ 9007199254740992 * h) : Rep x := by
  obtain ⟨k, rfl⟩ := p
  obtain ⟨m, rfl⟩ := hd
  have hp := Nat.two_pow_pos k
  have hm : m.natAbs ≤ 9007199254740992 := by
    rw [Int.natAbs_mul, Int.natAbs_natCast] at hb
    have : 2 ^ k * m.natAbs ≤ 2 ^ k * 9007199254740992 := by
      have h2 : ((2 ^ k * m.natAbs : Nat) : Int) ≤ ((2 ^ k * 9007199254740992 : Nat) : Int) := by
        rw [Int.natCast_mul (2 ^ k) 9007199254740992, Int.mul_comm]
        exact hb
      exact_mod_cast h2
    exact Nat.le_of_mul_le_mul_left this hp
  show inex _ = false
  rw [Int.natAbs_mul, Int.natAbs_natCast, Nat.mul_comm]
  by_cases h0 : m.natAbs = 0
  · rw [h0, Nat.zero_mul]; rfl
  · exact inex_shift h0 _ (inex_full hm)

theorem rep_zero : Rep 0 := rfl

theorem rep_neg {z : Int} (h : Rep z) : Rep (-z) := by
  show inex _ = false
  rw [Int.natAbs_neg]; exact h

theorem inex_mod {n : Nat} (h : inex n = false) : n % 2 ^ (bl n - 53) = 0 := by
  unfold inex at h
  rw [decide_eq_false_iff_not] at h
  by_cases hb : 53 < bl n
  · apply Decidable.byContradiction
    intro hc
    exact h ⟨hb, hc⟩
  · rw [show bl n - 53 = 0 by omega, Nat.pow_zero, Nat.mod_one]

theorem rep_dvd {z h : Int} (p : Pw h) (hr : Rep z) (hb : 4503599627370496 * h ≤ z.natAbs) : h ∣ z := by
  obtain ⟨k, rfl⟩ := p
  have hm := inex_mod hr
  have hb' : 2 ^ (52 + k) ≤ z.natAbs := by
    rw [Nat.pow_add, p52]
    generalize 2 ^ k = g at *
    omega
  have hk : 52 + k < bl z.natAbs := bl_gt hb'
  have : 2 ^ k ∣ z.natAbs := Nat.dvd_trans (Nat.pow_dvd_pow 2 (by omega)) (Nat.dvd_of_mod_eq_zero hm)
  exact Int.ofNat_dvd_left.2 this

theorem dvd_gap {h x y : Int} (hp : 0 < h) (hx : h ∣ x) (hy : h ∣ y) (hlt : x < y) : x + h ≤ y := by
  obtain ⟨a, rfl⟩ := hx
  obtain ⟨b, rfl⟩ := hy
  have : a < b := Int.lt_of_mul_lt_mul_left hlt (Int.le_of_lt hp)
  have : h * (a + 1) ≤ h * b := Int.mul_le_mul_of_nonneg_left (by omega) (Int.le_of_lt hp)
  rw [Int.mul_add, Int.mul_one] at this
  exact this

/-- The nearest float is not farther than another one. -/
theorem nearM_best (n w : Nat) (hw : inex w = false) : ((n : Int) - nearM n).natAbs ≤ ((n : Int) - w).natAbs := by
  by_cases hb : bl n ≤ 53
  · unfold nearM; rw [if_pos hb]; omega
  · have hn0 : 0 < n := by
      rcases Nat.eq_zero_or_pos n with h | h
      · subst h; exact absurd (show bl 0 ≤ 53 by decide) hb
      · exact h
    have hpw : Pw ((2 ^ (bl n - 53) : Nat) : Int) := ⟨_, rfl⟩
    have hmf : mf n = n / 2 ^ (bl n - 53) := by unfold mf; rw [if_neg hb]
    obtain ⟨m1, m2⟩ := mf_bounds hn0
    have hd := Nat.div_add_mod n (2 ^ (bl n - 53))
    have hl := Nat.mod_lt n (Nat.two_pow_pos (bl n - 53))
    have hN : nearM n = (mf n + if nup n then 1 else 0) * 2 ^ (bl n - 53) := by unfold nearM; rw [if_neg hb]
    have hu : nup n = (decide (2 ^ (bl n - 53) < 2 * (n % 2 ^ (bl n - 53))) || (2 ^ (bl n - 53) == 2 * (n % 2 ^ (bl n - 53)) && (n / 2 ^ (bl n - 53)) % 2 == 1)) := by
      unfold nup; rw [decide_eq_true (show 53 < bl n by omega), Bool.true_and]
    have hwr : Rep (w : Int) := by show inex _ = false; rw [Int.natAbs_natCast]; exact hw
    rw [← hmf] at hd hu
    rw [hN]
    have hrw := rep_dvd (z := (w : Int)) hpw hwr
    rw [Int.natAbs_natCast] at hrw
    generalize hg : 2 ^ (bl n - 53) = g at *
    have hgp : 0 < g := by rw [← hg]; exact Nat.two_pow_pos _
    generalize n % g = r at *
    generalize mf n = q at *
    have hw2 : (w : Int) ≤ g * q ∨ (g : Int) * q + g ≤ w := by
      by_cases hs : 4503599627370496 * (g : Int) ≤ (w : Int)
      · have hdv := hrw hs
        by_cases hlt : (g : Int) * q < w
        · right
          exact dvd_gap (by omega) ⟨_, rfl⟩ hdv hlt
        · left; omega
      · left
        have : (g : Int) * 4503599627370496 ≤ g * q := Int.mul_le_mul_of_nonneg_left (by omega) (by omega)
        omega
    have hd' : (g : Int) * q + r = n := by exact_mod_cast hd
    have hNe : (((q + if nup n = true then 1 else 0) * g : Nat) : Int) = (g : Int) * q + (if nup n = true then (g : Int) else 0) := by
      cases nup n
      · simp only [Bool.false_eq_true, if_false, Nat.add_zero, Int.natCast_mul, Int.add_zero]; exact Int.mul_comm _ _
      · simp only [if_true, Int.natCast_mul, Int.natCast_add, Int.add_mul]
        rw [Int.mul_comm (q : Int)]; simp
    rw [hNe]
    generalize (g : Int) * q = Q at *
    have hcase : (nup n = true → g ≤ 2 * r) ∧ (nup n = false → 2 * r ≤ g) := by
      rw [hu]
      constructor
      · intro h
        rw [Bool.or_eq_true] at h
        rcases h with h | h
        · rw [decide_eq_true_eq] at h; omega
        · rw [Bool.and_eq_true, beq_iff_eq] at h; omega
      · intro h
        rw [Bool.or_eq_false_iff] at h
        have := h.1
        rw [decide_eq_false_iff_not] at this; omega
    cases hnu : nup n
    · have := hcase.2 hnu
      simp only [Bool.false_eq_true, if_false]
      omega
    · have := hcase.1 hnu
      simp only [if_true]
      omega

theorem nearI_abs (z : Int) : (nearI z).natAbs = nearM z.natAbs := by unfold nearI; exact (sg_natAbs rfl).symm

theorem nearI_sgn (z : Int) : (z < 0 → nearI z = -(nearM z.natAbs : Int)) ∧ (¬ z < 0 → nearI z = (nearM z.natAbs : Int)) := by
  unfold nearI sg
  constructor
  · intro h; rw [decide_eq_true h, if_pos rfl]
  · intro h; rw [decide_eq_false h, if_neg Bool.false_ne_true]

theorem nearI_zero : nearI 0 = 0 := rfl

theorem nearI_rep (z : Int) : Rep (nearI z) := by
  show inex _ = false
  rw [nearI_abs]
  by_cases h : z.natAbs = 0
  · rw [h]; rfl
  · exact (nearM_facts h).2.1

theorem near_best (z w : Int) (hw : Rep w) : (z - nearI z).natAbs ≤ (z - w).natAbs := by
  have h1 := nearM_best z.natAbs w.natAbs hw
  have h0 := nearM_best z.natAbs 0 rfl
  by_cases hz : z < 0
  · have := (nearI_sgn z).1 hz
    omega
  · have := (nearI_sgn z).2 hz
    omega

theorem near_rep {z : Int} (h : Rep z) : nearI z = z := by
  have := near_best z z h
  omega

theorem near_le {z w : Int} (hw : Rep w) (h : z ≤ w) : nearI z ≤ w := by
  have := near_best z w hw
  omega

theorem near_ge {z w : Int} (hw : Rep w) (h : w ≤ z) : w ≤ nearI z := by
  have := near_best z w hw
  omega

theorem near_half {z g : Int} (p : Pw g) (h : z.natAbs ≤ 9007199254740992 * g) : 2 * ((z - nearI z).natAbs : Int) ≤ g := by
  have gp := p.pos
  have hd := Int.mul_ediv_add_emod z g
  have m1 := Int.emod_nonneg z (Int.ne_of_gt gp)
  have m2 := Int.emod_lt_of_pos z gp
  have d1 : g ∣ g * (z / g) := ⟨_, rfl⟩
  have d2 : g ∣ g * (z / g) + g := Int.dvd_add d1 (Int.dvd_refl g)
  have d3 : g ∣ 9007199254740992 * g := ⟨9007199254740992, Int.mul_comm _ _⟩
  have d4 : g ∣ -(9007199254740992 * g) := Int.dvd_neg.2 d3
  generalize g * (z / g) = f at *
  generalize z % g = r at *
  have b1 : -(9007199254740992 * g) ≤ f := by
    rcases (show -(9007199254740992 * g) ≤ f ∨ f < -(9007199254740992 * g) by omega) with h' | h'
    · exact h'
    · have := dvd_gap gp d1 d4 h'; omega
  by_cases hr : 2 * r ≤ g
  · have := near_best z f (rep_pw p d1 (by omega))
    omega
  · have : f + g ≤ 9007199254740992 * g := by
      rcases (show f + g ≤ 9007199254740992 * g ∨ 9007199254740992 * g < f + g by omega) with h' | h'
      · exact h'
      · have := dvd_gap gp d3 d2 h'; omega
    have := near_best z (f + g) (rep_pw p d2 (by omega))
    omega

theorem near_dvd {z g : Int} (p : Pw g) (h : g ∣ z) : g ∣ nearI z := by
  by_cases hs : (z.natAbs : Int) ≤ 9007199254740992 * g
  · rw [near_rep (rep_pw p h hs)]; exact h
  · have gp := p.pos
    have d3 : g ∣ 9007199254740992 * g := ⟨9007199254740992, Int.mul_comm _ _⟩
    have r3 : Rep (9007199254740992 * g) := rep_pw p d3 (by omega)
    by_cases hz : z < 0
    · have := near_le (z := z) (rep_neg r3) (by omega)
      exact rep_dvd p (nearI_rep z) (by omega)
    · have := near_ge (z := z) r3 (by omega)
      exact rep_dvd p (nearI_rep z) (by omega)

/-- Half the last place of a float. -/
theorem rep_ulp {z : Int} (hr : Rep z) (h : 9007199254740992 ≤ z.natAbs) : ∃ u, Pw u ∧ 2 * u ∣ z ∧ 9007199254740992 * u ≤ z.natAbs ∧ (z.natAbs : Int) < 18014398509481984 * u := by
  have h0 : 0 < z.natAbs := by omega
  obtain ⟨b1, b2, b3⟩ := bl_bounds h0
  have hk : 53 < bl z.natAbs := bl_gt (by rw [p53]; exact h)
  have e2 : ((2 ^ (bl z.natAbs - 54) * 2 : Nat) : Int) = 2 * ((2 ^ (bl z.natAbs - 54) : Nat) : Int) := by rw [Int.natCast_mul, Int.mul_comm]; rfl
  refine ⟨((2 ^ (bl z.natAbs - 54) : Nat) : Int), ⟨_, rfl⟩, ?_, ?_, ?_⟩
  · rw [← e2, ← Nat.pow_succ, show (bl z.natAbs - 54).succ = bl z.natAbs - 53 by omega]
    exact Int.ofNat_dvd_left.2 (Nat.dvd_of_mod_eq_zero (inex_mod hr))
  · have : 9007199254740992 * 2 ^ (bl z.natAbs - 54) ≤ z.natAbs := by
      rw [← p53, ← Nat.pow_add, show 53 + (bl z.natAbs - 54) = bl z.natAbs - 1 by omega]; exact b1
    generalize 2 ^ (bl z.natAbs - 54) = g at *
    omega
  · have : z.natAbs < 18014398509481984 * 2 ^ (bl z.natAbs - 54) := by
      have p54 : (18014398509481984 : Nat) = 2 ^ 54 := by decide
      rw [p54, ← Nat.pow_add, show 54 + (bl z.natAbs - 54) = bl z.natAbs by omega]; exact b2
    generalize 2 ^ (bl z.natAbs - 54) = g at *
    omega
end Go.Proofs.YtonhpkigoplmaaaGreatDoor
namespace Go.Proofs.YtonhpkigoplmaaaGreatDoor
open Go.RowKit Go.Extern Ieee

/-- What the six sums need. -/
def TwoOk (a b : Int) : Prop := Rep (nearI (a + b) - nearI (nearI (a + b) - a)) ∧ Rep (a - (nearI (a + b) - nearI (nearI (a + b) - a))) ∧ Rep (b - nearI (nearI (a + b) - a)) ∧ Rep (a + b - nearI (a + b))

theorem twoOk_of {a b N V : Int} (hN : nearI (a + b) = N) (hV : nearI (N - a) = V) (h1 : Rep (N - V)) (h2 : Rep (a - (N - V))) (h3 : Rep (b - V)) (h4 : Rep (a + b - N)) : TwoOk a b := by
  unfold TwoOk
  rw [hN, hV]
  exact ⟨h1, h2, h3, h4⟩

theorem near_neg (z : Int) : nearI (-z) = -nearI z := by
  by_cases h0 : z = 0
  · subst h0; rfl
  · by_cases hz : z < 0
    · have h1 := (nearI_sgn z).1 hz
      have h2 := (nearI_sgn (-z)).2 (by omega)
      rw [Int.natAbs_neg] at h2
      omega
    · have h1 := (nearI_sgn z).2 hz
      have h2 := (nearI_sgn (-z)).1 (by omega)
      rw [Int.natAbs_neg] at h2
      omega

theorem TwoOk.neg {a b : Int} (h : TwoOk (-a) (-b)) : TwoOk a b := by
  unfold TwoOk at *
  rw [show -a + -b = -(a + b) by omega, near_neg] at h
  rw [show -nearI (a + b) - -a = -(nearI (a + b) - a) by omega, near_neg] at h
  generalize nearI (a + b) = N at *
  generalize nearI (N - a) = V at *
  obtain ⟨h1, h2, h3, h4⟩ := h
  refine ⟨?_, ?_, ?_, ?_⟩
  · have := rep_neg h1; rwa [show -(-N - -V) = N - V by omega] at this
  · have := rep_neg h2; rwa [show -(-a - (-N - -V)) = a - (N - V) by omega] at this
  · have := rep_neg h3; rwa [show -(-b - -V) = b - V by omega] at this
  · have := rep_neg h4; rwa [show -(-(a + b) - -N) = a + b - N by omega] at this

/-- The first one is exact. -/
theorem two_exact {a b : Int} (ra : Rep a) (rb : Rep b) (rz : Rep (a + b)) : TwoOk a b := by
  have hN := near_rep rz
  have hV : nearI (a + b - a) = b := by rw [show a + b - a = b by omega]; exact near_rep rb
  refine twoOk_of hN hV ?_ ?_ ?_ ?_
  · rwa [show a + b - b = a by omega]
  · rw [show a - (a + b - b) = 0 by omega]; exact rep_zero
  · rw [Int.sub_self]; exact rep_zero
  · rw [Int.sub_self]; exact rep_zero

/-- The second one is exact too. -/
theorem two_dekker {a b : Int} (ra : Rep a) (rV : Rep (nearI (a + b) - a)) (rz : Rep (a + b - nearI (a + b))) : TwoOk a b := by
  refine twoOk_of rfl (near_rep rV) ?_ ?_ ?_ rz
  · rwa [show nearI (a + b) - (nearI (a + b) - a) = a by omega]
  · rw [show a - (nearI (a + b) - (nearI (a + b) - a)) = 0 by omega]; exact rep_zero
  · rwa [show b - (nearI (a + b) - a) = a + b - nearI (a + b) by omega]

theorem dvd_two {u z : Int} (h : 2 * u ∣ z) : u ∣ z := Int.dvd_trans ⟨2, by omega⟩ h

theorem ulp_dvd {u v z : Int} (pu : Pw u) (pv : Pw v) (hle : u ≤ v) (h : 2 * v ∣ z) : 2 * u ∣ z :=
  Int.dvd_trans (pu.two.dvd pv.two (by omega)) h

theorem two_big {a b u v : Int} (ra : Rep a) (rb : Rep b) (pu : Pw u) (pv : Pw v) (ua : 2 * u ∣ a) (vb : 2 * v ∣ b) (a1 : 9007199254740992 * u ≤ a) (a2 : a < 18014398509481984 * u) (b1 : 9007199254740992 * v ≤ b.natAbs) (b2 : (b.natAbs : Int) < 18014398509481984 * v) (hab : (b.natAbs : Int) ≤ a) : TwoOk a b := by
  have u0 := pu.pos
  have v0 := pv.pos
  have hvu : v ≤ u := by
    rcases (show v ≤ u ∨ u < v by omega) with h | h
    · exact h
    · have := dvd_gap u0 (Int.dvd_refl u) (pu.dvd pv (by omega)) h
      omega
  have va : 2 * v ∣ a := ulp_dvd pv pu hvu ua
  have vz : 2 * v ∣ a + b := Int.dvd_add va vb
  have vN := near_dvd pv.two vz
  have rz : Rep (a + b - nearI (a + b)) := by
    have h1 := near_best (a + b) a ra
    exact rep_pw pv.two (Int.dvd_sub vz vN) (by omega)
  have a3 : a + 2 * u ≤ 18014398509481984 * u := dvd_gap pu.two.pos ua ⟨9007199254740992, by omega⟩ a2
  by_cases hb : 0 ≤ b
  · have hh := near_half (z := a + b) pu.two.two (by omega)
    have hge := near_ge (z := a + b) ra (by omega)
    have uN := rep_dvd (z := nearI (a + b)) pu.two (nearI_rep _) (by omega)
    exact two_dekker ra (rep_pw pu.two (Int.dvd_sub uN ua) (by omega)) rz
  · by_cases hs : a ≤ 2 * (-b)
    · exact two_exact ra rb (rep_pw pv.two vz (by omega))
    · have hh := near_half (z := a + b) pu.two (by omega)
      have r52 : Rep (4503599627370496 * u) := rep_pw pu ⟨4503599627370496, Int.mul_comm _ _⟩ (by omega)
      have hge := near_ge (z := a + b) r52 (by omega)
      have uN := rep_dvd (z := nearI (a + b)) pu (nearI_rep _) (by omega)
      exact two_dekker ra (rep_pw pu (Int.dvd_sub uN (dvd_two ua)) (by omega)) rz

theorem two_small {a b u v : Int} (ra : Rep a) (rb : Rep b) (pu : Pw u) (pv : Pw v) (ub : 2 * u ∣ b) (va : 2 * v ∣ a) (b1 : 9007199254740992 * u ≤ b) (b2 : b < 18014398509481984 * u) (a1 : 9007199254740992 * v ≤ a.natAbs) (a2 : (a.natAbs : Int) < 18014398509481984 * v) (hab : (a.natAbs : Int) < b) : TwoOk a b := by
  have u0 := pu.pos
  have v0 := pv.pos
  have hvu : v ≤ u := by
    rcases (show v ≤ u ∨ u < v by omega) with h | h
    · exact h
    · have := dvd_gap u0 (Int.dvd_refl u) (pu.dvd pv (by omega)) h
      omega
  have vb : 2 * v ∣ b := ulp_dvd pv pu hvu ub
  have vz : 2 * v ∣ a + b := Int.dvd_add va vb
  have b3 : b + 2 * u ≤ 18014398509481984 * u := dvd_gap pu.two.pos ub ⟨9007199254740992, by omega⟩ b2
  by_cases hs : a < 0 ∧ b ≤ 2 * (-a)
  · exact two_exact ra rb (rep_pw pv.two vz (by omega))
  · have hz2 : b ≤ 2 * (a + b) := by omega
    have hh := near_half (z := a + b) pu.two.two (by omega)
    have vN := near_dvd pv.two vz
    have hzb := near_best (a + b) b rb
    have rz : Rep (a + b - nearI (a + b)) := rep_pw pv.two (Int.dvd_sub vz vN) (by omega)
    have rN := nearI_rep (a + b)
    have r52 : Rep (4503599627370496 * u) := rep_pw pu ⟨4503599627370496, Int.mul_comm _ _⟩ (by omega)
    have r53 : Rep (9007199254740992 * u) := rep_pw pu ⟨9007199254740992, Int.mul_comm _ _⟩ (by omega)
    have r54 : Rep (18014398509481984 * u) := rep_pw pu.two ⟨9007199254740992, by omega⟩ (by omega)
    have r53m : Rep (9007199254740990 * u) := rep_pw pu ⟨9007199254740990, Int.mul_comm _ _⟩ (by omega)
    have hge := near_ge (z := a + b) r52 (by omega)
    have uN := rep_dvd pu rN (by omega)
    have hlt54 : nearI (a + b) < 18014398509481984 * u → a + b < 18014398509481984 * u := by
      intro h
      rcases (show a + b < 18014398509481984 * u ∨ 18014398509481984 * u ≤ a + b by omega) with h' | h'
      · exact h'
      · have := near_ge (z := a + b) r54 h'; omega
    have hhs : a + b < 18014398509481984 * u → 2 * ((a + b - nearI (a + b)).natAbs : Int) ≤ 2 * u := by
      intro h
      exact near_half pu.two (by omega)
    generalize hN : nearI (a + b) = N at *
    have hV1 := near_half (z := N - a) pu.two (by omega)
    have hV2 := near_ge (z := N - a) r53m (by omega)
    have rV := nearI_rep (N - a)
    have uV := rep_dvd pu rV (by omega)
    have vt : 2 * v ∣ N - a := Int.dvd_sub vN va
    have vV := near_dvd pv.two vt
    have hVb := near_best (N - a) N rN
    have hV3 : 9007199254740992 * u ≤ N - a → 9007199254740992 * u ≤ nearI (N - a) := fun h => near_ge r53 h
    generalize hV : nearI (N - a) = V at *
    refine twoOk_of hN hV ?_ ?_ ?_ rz
    · by_cases hbig : 18014398509481984 * u ≤ N
      · have u2N := rep_dvd pu.two rN (by omega)
        have ht : 9007199254740992 * u ≤ N - a := by
          rcases (show a ≤ 9007199254740992 * u ∨ 9007199254740992 * u < a by omega) with h | h
          · omega
          · have u2a := rep_dvd pu.two ra (by omega)
            have := dvd_gap pu.two.pos u2a ub (by omega)
            omega
        have := hV3 ht
        have u2V := rep_dvd pu.two rV (by omega)
        exact rep_pw pu.two (Int.dvd_sub u2N u2V) (by omega)
      · have hz54 := hlt54 (by omega)
        have := hhs hz54
        have dNV := Int.dvd_sub uN uV
        have e1 : u ∣ 9007199254740993 * u := ⟨9007199254740993, Int.mul_comm _ _⟩
        have g1 : N - V + u ≤ 9007199254740993 * u := dvd_gap u0 dNV e1 (by omega)
        have g2 : -(9007199254740993 * u) + u ≤ N - V := dvd_gap u0 (Int.dvd_neg.2 e1) dNV (by omega)
        exact rep_pw pu dNV (by omega)
    · rw [show a - (N - V) = V - (N - a) by omega]
      exact rep_pw pv.two (Int.dvd_sub vV vt) (by omega)
    · exact rep_pw pu (Int.dvd_sub (dvd_two ub) uV) (by omega)

theorem two_sum {a b : Int} (ra : Rep a) (rb : Rep b) (ha : a = 0 ∨ 9007199254740992 ≤ a.natAbs) (hb : b = 0 ∨ 9007199254740992 ≤ b.natAbs) : TwoOk a b := by
  rcases ha with rfl | ha
  · exact two_exact ra rb (by rw [Int.zero_add]; exact rb)
  rcases hb with rfl | hb
  · exact two_exact ra rb (by rw [Int.add_zero]; exact ra)
  obtain ⟨u, pu, ua, u1, u2⟩ := rep_ulp ra ha
  obtain ⟨v, pv, vb, v1, v2⟩ := rep_ulp rb hb
  by_cases h : b.natAbs ≤ a.natAbs
  · by_cases h0 : 0 < a
    · exact two_big ra rb pu pv ua vb (by omega) (by omega) v1 v2 (by omega)
    · apply TwoOk.neg
      refine two_big (rep_neg ra) (rep_neg rb) pu pv (Int.dvd_neg.2 ua) (Int.dvd_neg.2 vb) (by omega) (by omega) ?_ ?_ ?_ <;> rw [Int.natAbs_neg] <;> omega
  · by_cases h0 : 0 < b
    · exact two_small ra rb pv pu vb ua (by omega) (by omega) u1 u2 (by omega)
    · apply TwoOk.neg
      refine two_small (rep_neg ra) (rep_neg rb) pv pu (Int.dvd_neg.2 vb) (Int.dvd_neg.2 ua) (by omega) (by omega) ?_ ?_ ?_ <;> rw [Int.natAbs_neg] <;> omega
end Go.Proofs.YtonhpkigoplmaaaGreatDoor
namespace Go.Proofs.YtonhpkigoplmaaaGreatDoor
open Go.RowKit Go.Extern Ieee

/-- An amount's rung, with one place for all that is too small and one for all that is too great. -/
def clampR (r : Int) : Int := if r < 553942754166571008 then 553942754166571007 else if 8660422083433463808 < r then 8660422083433463809 else r
def sgI (s : Bool) (r : Int) : Int := if s then -r else r

/-- The rung of a number's end, off 0 where the way goes so. -/
def endR (s : Bool) (n : Nat) (e way : Int) : Int := rung n e + if offS s way && inex n then 1 else 0

def posV (x : Bool × Nat × Int) (way : Int) : Int := if x.2.1 = 0 then 0 else sgI x.1 (clampR (endR x.1 x.2.1 x.2.2 way))
def posF (d : Nat) : Int := if d % 9223372036854775808 = 0 then 0 else sgI (decide (9223372036854775808 ≤ d)) (clampR ((d % 9223372036854775808 : Nat) : Int))

/-- Is a place a plain float's? -/
def plP (p : Int) : Bool := decide (p = 0 ∨ 553942754166571008 ≤ p.natAbs ∧ p.natAbs ≤ 8660422083433463808)
def wdP (p : Int) : Nat := wd (decide (p < 0)) p.natAbs

/-- The two ends and the error of two places. -/
def boxP (p q : Int) : Nat × Nat × Nat := if plP p = true ∧ plP q = true then (wdP p, wdP q, 0) else (0, 0, 3)

theorem clampR_bounds (r : Int) : 553942754166571007 ≤ clampR r ∧ clampR r ≤ 8660422083433463809 := by
  unfold clampR; split
  · omega
  · split <;> omega

theorem clampR_mono {r t : Int} (h : r ≤ t) : clampR r ≤ clampR t := by
  unfold clampR; repeat' split
  all_goals omega

theorem roundN_posV (x : Bool × Nat × Int) (way : Int) : roundN x.1 x.2.1 x.2.2 way = if plP (posV x way) = true then (wdP (posV x way), true) else (0, false) := by
  obtain ⟨s, n, e⟩ := x
  by_cases h0 : n = 0
  · subst h0
    have : posV (s, 0, e) way = 0 := by unfold posV; rw [if_pos rfl]
    rw [this]
    unfold roundN
    rw [if_pos rfl]; rfl
  · have : posV (s, n, e) way = sgI s (clampR (endR s n e way)) := by unfold posV; rw [if_neg h0]
    rw [this]
    show roundN s n e way = _
    rw [roundN_rung s e way h0]
    show rngW s (endR s n e way) = _
    generalize endR s n e way = r
    unfold rngW plP wdP sgI clampR wd
    by_cases h1 : r < 553942754166571008
    · rw [if_neg (by omega), if_pos h1]
      cases s
      · simp
      · simp
    · by_cases h2 : 8660422083433463808 < r
      · rw [if_neg (by omega), if_neg h1, if_pos h2]
        cases s
        · simp
        · simp
      · rw [if_pos (by omega), if_neg h1, if_neg h2]
        cases s
        · rw [if_neg Bool.false_ne_true, if_neg Bool.false_ne_true, decide_eq_true (by omega), if_pos rfl, decide_eq_false (by omega), if_neg Bool.false_ne_true]
          congr 1; omega
        · rw [if_pos rfl, if_pos rfl, decide_eq_true (by omega), if_pos rfl, decide_eq_true (by omega), if_pos rfl]
          congr 1; omega

theorem aroundN_posV (x y : Bool × Nat × Int) : aroundN x y = boxP (posV x (-1)) (posV y 1) := by
  unfold aroundN boxP
  rw [roundN_posV, roundN_posV]
  cases plP (posV x (-1)) <;> cases plP (posV y 1) <;> rfl

theorem inex_shift_iff {n : Nat} (h : n ≠ 0) (k : Nat) : inex (n * 2 ^ k) = inex n := by
  cases hi : inex n
  · exact inex_shift h k hi
  · unfold inex at hi ⊢
    rw [decide_eq_true_eq] at hi ⊢
    rw [bl_shift h]
    refine ⟨by omega, ?_⟩
    rw [show bl n + k - 53 = (bl n - 53) + k by omega, Nat.pow_add, Nat.mul_mod_mul_right]
    intro hc
    rcases Nat.mul_eq_zero.1 hc with hc | hc
    · exact hi.2 hc
    · exact Nat.pos_iff_ne_zero.1 (Nat.two_pow_pos k) hc

theorem rung_shift {n : Nat} (h : n ≠ 0) (k : Nat) (e : Int) : rung (n * 2 ^ k) e = rung n (e + k) := by
  unfold rung
  rw [mf_shift h, bl_shift h]
  congr 2
  omega

theorem endR_shift (s : Bool) {n : Nat} (h : n ≠ 0) (k : Nat) (e way : Int) : endR s (n * 2 ^ k) e way = endR s n (e + k) way := by
  unfold endR
  rw [rung_shift h, inex_shift_iff h]

theorem bl_mono {n m : Nat} (h0 : n ≠ 0) (h : n ≤ m) : bl n ≤ bl m := by
  have h1 := bl_bounds (Nat.pos_of_ne_zero h0)
  have h2 := bl_bounds (n := m) (by omega)
  apply Decidable.byContradiction
  intro hc
  have : (2 : Nat) ^ bl m ≤ 2 ^ (bl n - 1) := Nat.pow_le_pow_right (by decide) (by omega)
  omega

/-- A greater amount, no lower rung. -/
theorem rung_mono {n m : Nat} (e : Int) (h0 : n ≠ 0) (h : n ≤ m) : rung n e ≤ rung m e ∧ (rung n e + if inex n then 1 else 0) ≤ (rung m e + if inex m then 1 else 0) := by
  have hb := bl_mono h0 h
  have m1 := mf_bounds (Nat.pos_of_ne_zero h0)
  have m2 := mf_bounds (n := m) (by omega)
  have i1 : ∀ b : Bool, (0 : Int) ≤ (if b then 1 else 0) ∧ (if b then (1 : Int) else 0) ≤ 1 := by intro b; cases b <;> decide
  by_cases heq : bl n = bl m
  · have hr : rung n e - rung m e = (mf n : Int) - mf m := by unfold rung; rw [heq]; omega
    by_cases h53 : bl n ≤ 53
    · have e1 : inex n = false := inex_small h53
      have e2 : inex m = false := inex_small (by omega)
      have : mf n ≤ mf m := by
        unfold mf
        rw [if_pos h53, if_pos (by omega), heq]
        exact Nat.mul_le_mul_right _ h
      rw [e1, e2]
      simp only [Bool.false_eq_true, if_false]
      omega
    · have f1 : mf n = n / 2 ^ (bl m - 53) := by unfold mf; rw [if_neg h53, heq]
      have f2 : mf m = m / 2 ^ (bl m - 53) := by unfold mf; rw [if_neg (by omega)]
      have x1 : inex n = decide (n % 2 ^ (bl m - 53) ≠ 0) := by unfold inex; rw [heq]; simp [show 53 < bl m by omega]
      have x2 : inex m = decide (m % 2 ^ (bl m - 53) ≠ 0) := by unfold inex; simp [show 53 < bl m by omega]
      have hp := Nat.two_pow_pos (bl m - 53)
      have d1 := Nat.div_add_mod n (2 ^ (bl m - 53))
      have d2 := Nat.div_add_mod m (2 ^ (bl m - 53))
      have hle : mf n ≤ mf m := by rw [f1, f2]; exact Nat.div_le_div_right h
      have hlt : mf n = mf m → n % 2 ^ (bl m - 53) ≤ m % 2 ^ (bl m - 53) := by
        intro hc
        rw [f1, f2] at hc
        rw [hc] at d1
        omega
      rw [x1, x2]
      generalize n % 2 ^ (bl m - 53) = r at *
      generalize m % 2 ^ (bl m - 53) = t at *
      refine ⟨by omega, ?_⟩
      by_cases hc : mf n = mf m
      · have := hlt hc
        by_cases hr0 : r = 0
        · have := (i1 (decide (t ≠ 0))).1
          rw [decide_eq_false (show ¬ r ≠ 0 by omega)]
          simp only [Bool.false_eq_true, if_false]
          omega
        · rw [decide_eq_true (show r ≠ 0 from hr0), decide_eq_true (show t ≠ 0 by omega)]
          omega
      · have a1 := (i1 (decide (r ≠ 0))).2
        have a2 := (i1 (decide (t ≠ 0))).1
        omega
  · have a1 := (i1 (inex n)).2
    have a2 := (i1 (inex m)).1
    generalize (if inex n = true then (1 : Int) else 0) = i at *
    generalize (if inex m = true then (1 : Int) else 0) = j at *
    unfold rung
    omega

/-- Is one number not above another? Both at one power of two. -/
def leV (x y : Bool × Nat × Int) : Prop := sg x.1 (lvA x.2.1 x.2.2 y.2.2) ≤ sg y.1 (lvB y.2.1 x.2.2 y.2.2)

theorem offS_down (s : Bool) : offS s (-1) = s := by cases s <;> rfl
theorem offS_up (s : Bool) : offS s 1 = !s := by cases s <;> rfl

theorem posV_mono {x y : Bool × Nat × Int} (way : Int) (hw : way = -1 ∨ way = 1) (h : leV x y) : posV x way ≤ posV y way := by
  obtain ⟨s, n, e⟩ := x
  obtain ⟨t, m, f⟩ := y
  unfold leV at h
  simp only at h
  have hp1 := Nat.two_pow_pos (e - min e f).toNat
  have hp2 := Nat.two_pow_pos (f - min e f).toNat
  have z1 : n ≠ 0 → lvA n e f ≠ 0 := fun hn => Nat.mul_ne_zero hn (by omega)
  have z2 : m ≠ 0 → lvB m e f ≠ 0 := fun hn => Nat.mul_ne_zero hn (by omega)
  have z1' : n = 0 → lvA n e f = 0 := fun hn => by unfold lvA; rw [hn, Nat.zero_mul]
  have z2' : m = 0 → lvB m e f = 0 := fun hn => by unfold lvB; rw [hn, Nat.zero_mul]
  have r1 : n ≠ 0 → endR s n e way = endR s (lvA n e f) (min e f) way := by
    intro hn
    unfold lvA
    rw [endR_shift s hn]
    congr 1
    omega
  have r2 : m ≠ 0 → endR t m f way = endR t (lvB m e f) (min e f) way := by
    intro hn
    unfold lvB
    rw [endR_shift t hn]
    congr 1
    omega
  unfold posV
  simp only
  generalize lvA n e f = N at *
  generalize lvB m e f = M at *
  have c1 := clampR_bounds (endR s n e way)
  have c2 := clampR_bounds (endR t m f way)
  by_cases hn : n = 0
  · rw [if_pos hn]
    have := z1' hn
    subst this
    by_cases hm : m = 0
    · rw [if_pos hm]; exact Int.le_refl _
    · rw [if_neg hm]
      have := z2 hm
      cases t
      · unfold sgI; rw [if_neg Bool.false_ne_true]; omega
      · unfold sg at h; simp at h; omega
  · rw [if_neg hn]
    have hN := z1 hn
    by_cases hm : m = 0
    · rw [if_pos hm]
      have := z2' hm
      subst this
      cases s
      · unfold sg at h; simp at h; omega
      · unfold sgI; rw [if_pos rfl]; omega
    · rw [if_neg hm]
      have hM := z2 hm
      cases s
      · cases t
        · have hle : N ≤ M := by unfold sg at h; simp at h; exact h
          unfold sgI
          rw [if_neg Bool.false_ne_true, if_neg Bool.false_ne_true]
          apply clampR_mono
          rw [r1 hn, r2 hm]
          have := rung_mono (min e f) hN hle
          unfold endR
          rcases hw with rfl | rfl
          · simp only [offS_down, Bool.false_and, Bool.false_eq_true, if_false, Int.add_zero]; exact this.1
          · simp only [offS_up, Bool.not_false, Bool.true_and]; exact this.2
        · exfalso
          unfold sg at h; simp at h; omega
      · cases t
        · unfold sgI
          rw [if_pos rfl, if_neg Bool.false_ne_true]; omega
        · have hle : M ≤ N := by unfold sg at h; simp at h; exact h
          unfold sgI
          rw [if_pos rfl, if_pos rfl]
          have : clampR (endR true m f way) ≤ clampR (endR true n e way) := by
            apply clampR_mono
            rw [r1 hn, r2 hm]
            have := rung_mono (min e f) hM hle
            unfold endR
            rcases hw with rfl | rfl
            · simp only [offS_down, Bool.true_and]; exact this.2
            · simp only [offS_up, Bool.not_true, Bool.false_and, Bool.false_eq_true, if_false, Int.add_zero]; exact this.1
          omega
end Go.Proofs.YtonhpkigoplmaaaGreatDoor
