/-
  enclose.sum of the two halves of a whole number.
-/
import Derived.Test.YtonhpkigoplmaaaGreatDoorRndP
namespace Go.Proofs.YtonhpkigoplmaaaGreatDoor
open Go.RowKit Go.Extern Ieee

theorem fits_small {z : Int} (h : z.natAbs < 2 ^ 70) : Fits 0 z ∧ (0 : Int) + bl z.natAbs ≤ 1022 := by
  have := bl_le h
  exact ⟨⟨by omega, by omega⟩, by omega⟩

theorem rep_small {z : Int} (h : z.natAbs < 2 ^ 53) : Rep z := inex_small (bl_le h)

/-- The nearest float's number. -/
def nearI (n : Int) : Int := sg (decide (n < 0)) (nearM n.natAbs)

theorem nearI_facts {n : Int} (h0 : n ≠ 0) (hb : n.natAbs < 2 ^ 65) : Rep (nearI n) ∧ fd 0 (nearI n) = fd 0 n ∧ (nearI n).natAbs < 2 ^ 67 ∧ (n - nearI n).natAbs ≤ 4096 ∧ (if n - nearI n = 0 then Ordering.eq else if n - nearI n < 0 then .lt else .gt) = side (decide (n < 0)) n.natAbs := by
  have hn : n.natAbs ≠ 0 := by omega
  obtain ⟨f1, f2, f3, f4⟩ := nearM_facts hn
  obtain ⟨c1, c2, c3, c4, c5⟩ := nearM_cmp n.natAbs
  have hbl := bl_le hb
  have hg : 2 ^ (bl n.natAbs - 53) ≤ 4096 := by
    have : (2 : Nat) ^ (bl n.natAbs - 53) ≤ 2 ^ 12 := Nat.pow_le_pow_right (by decide) (by omega)
    exact this
  have habs : (nearI n).natAbs = nearM n.natAbs := by unfold nearI; exact (sg_natAbs rfl).symm
  have hsgn : (n < 0 → nearI n = -(nearM n.natAbs : Int)) ∧ (¬ n < 0 → nearI n = (nearM n.natAbs : Int)) := by
    unfold nearI sg
    constructor
    · intro h; rw [decide_eq_true h, if_pos rfl]
    · intro h; rw [decide_eq_false h, if_neg Bool.false_ne_true]
  have hNlt : decide (nearI n < 0) = decide (n < 0) := by
    apply decide_eq_decide.2
    by_cases h : n < 0
    · have := hsgn.1 h; omega
    · have := hsgn.2 h; omega
  have hNb : bl (nearM n.natAbs) ≤ 66 := by omega
  have hlt67 : nearM n.natAbs < 2 ^ 67 := by
    have := (bl_bounds (Nat.pos_of_ne_zero f1)).2.1
    exact Nat.lt_of_lt_of_le this (Nat.pow_le_pow_right (by decide) (by omega))
  refine ⟨?_, ?_, by rw [habs]; exact hlt67, ?_, ?_⟩
  · show inex (nearI n).natAbs = false
    rw [habs]; exact f2
  · have hN0 : nearI n ≠ 0 := by omega
    have hp1 := bl_pos (Nat.pos_of_ne_zero f1)
    rw [fd_wd hN0 ⟨by omega, by rw [habs]; omega⟩, fd_wd h0 ⟨by omega, by omega⟩, habs, hNlt, nup_rep f2, f3]
    simp
  · by_cases h : n < 0
    · have := hsgn.1 h; omega
    · have := hsgn.2 h; omega
  · unfold side
    by_cases h : n < 0
    · have hs := hsgn.1 h
      rw [decide_eq_true h]
      cases hi : inex n.natAbs
      · have := c1 hi
        rw [if_pos (by omega), if_pos rfl]
      · rw [if_neg (show ¬ true = false by simp)]
        cases hu : nup n.natAbs
        · have := c3 hi hu
          rw [if_neg (by omega), if_pos (by omega)]; rfl
        · have := c2 hi hu
          rw [if_neg (by omega), if_neg (by omega)]; rfl
    · have hs := hsgn.2 h
      rw [decide_eq_false h]
      cases hi : inex n.natAbs
      · have := c1 hi
        rw [if_pos (by omega), if_pos rfl]
      · rw [if_neg (show ¬ true = false by simp)]
        cases hu : nup n.natAbs
        · have := c3 hi hu
          rw [if_neg (by omega), if_neg (by omega)]; rfl
        · have := c2 hi hu
          rw [if_neg (by omega), if_pos (by omega)]; rfl

/-- A multiple of 2048 is a float. -/
theorem rep_high {x : Int} (h : x.natAbs ≤ 2 ^ 63) (hm : x.natAbs % 2048 = 0) : Rep x := by
  show inex x.natAbs = false
  have hb := bl_le (n := x.natAbs) (k := 64) (by have : (2 : Nat) ^ 63 < 2 ^ 64 := by decide
                                                 omega)
  unfold inex
  rw [decide_eq_false_iff_not]
  rintro ⟨h1, h2⟩
  apply h2
  obtain ⟨k, hk⟩ : ∃ k, bl x.natAbs - 53 + k = 11 := ⟨11 - (bl x.natAbs - 53), by omega⟩
  have e : (2048 : Nat) = 2 ^ (bl x.natAbs - 53) * 2 ^ k := by rw [← Nat.pow_add, hk]
  have : x.natAbs % 2048 % 2 ^ (bl x.natAbs - 53) = x.natAbs % 2 ^ (bl x.natAbs - 53) := by rw [e, Nat.mod_mul_right_mod]
  rw [← this, hm, Nat.zero_mod]

/-- The two ends around a whole number. -/
def wholeLo (n : Int) : Nat := if n = 0 then 0 else wd (decide (n < 0)) (rung n.natAbs 0 + if offS (decide (n < 0)) (-1) && inex n.natAbs then 1 else 0).toNat
def wholeHi (n : Int) : Nat := if n = 0 then 0 else wd (decide (n < 0)) (rung n.natAbs 0 + if offS (decide (n < 0)) 1 && inex n.natAbs then 1 else 0).toNat

theorem sum_whole (n x y : Int) (w : World) (hn : n.natAbs ≤ 2 ^ 63) (hxy : n = x + y) (hx : x.natAbs ≤ 2 ^ 63) (hxm : x.natAbs % 2048 = 0) (hy : y.natAbs < 2048) :
    Calls Tryz.prog 89 #[.float .f64 (fd 0 x), .float .f64 (fd 0 y)] w fun e w' => e = .returned (.agg #[.float .f64 (wholeLo n), .float .f64 (wholeHi n)]) ∧ Below w.heap.size w w' := by
  have p63 : (2 : Nat) ^ 63 = 9223372036854775808 := by decide
  have p65 : (2 : Nat) ^ 65 = 36893488147419103232 := by decide
  have p67 : (2 : Nat) ^ 67 = 147573952589676412928 := by decide
  have p70 : (2 : Nat) ^ 70 = 1180591620717411303424 := by decide
  have p53' := p53
  have fz : ∀ z : Int, z.natAbs < 1180591620717411303424 → Fits 0 z := fun z h => (fits_small (by rw [p70]; exact h)).1
  have rz : ∀ z : Int, z.natAbs < 9007199254740992 → Rep z := fun z h => rep_small (by rw [p53]; exact h)
  have rx : Rep x := rep_high hx hxm
  rw [p63] at hn hx
  by_cases h0 : n = 0
  · have ex : wholeLo n = 0 := by unfold wholeLo; rw [if_pos h0]
    have ey : wholeHi n = 0 := by unfold wholeHi; rw [if_pos h0]
    have h1 := add_fd (e := 0) (x := x) (y := y) (fz _ (by omega)) (fz _ (by omega)) rx (rz _ (by omega)) (fz _ (by omega))
    have h2 := sub_fd (e := 0) (x := x + y) (y := x) (fz _ (by omega)) (fz _ (by omega)) (rz _ (by omega)) rx (fz _ (by omega))
    have h3 := sub_fd (e := 0) (x := x + y) (y := x + y - x) (fz _ (by omega)) (fz _ (by omega)) (rz _ (by omega)) (rz _ (by omega)) (fz _ (by omega))
    have h4 := sub_fd (e := 0) (x := x) (y := x + y - (x + y - x)) (fz _ (by omega)) (fz _ (by omega)) rx (by rw [show x + y - (x + y - x) = x by omega]; exact rx) (fz _ (by omega))
    have h5 := sub_fd (e := 0) (x := y) (y := x + y - x) (fz _ (by omega)) (fz _ (by omega)) (rz _ (by omega)) (rz _ (by omega)) (fz _ (by omega))
    have h6 := add_fd (e := 0) (x := x - (x + y - (x + y - x))) (y := y - (x + y - x)) (fz _ (by omega)) (fz _ (by omega)) (rz _ (by omega)) (rz _ (by omega)) (fz _ (by omega))
    refine sumF_any _ _ _ _ _ _ _ _ _ _ w h1 h2 h3 h4 h5 h6 ?_
    intro w
    rw [ex, ey, show x + y = 0 by omega, fd_zero, show x - (0 - (0 - x)) + (y - (0 - x)) = 0 by omega, fd_zero]
    exact aroundF_eq 0 0 w rfl
  · obtain ⟨n1, n2, n3, n4, n5⟩ := nearI_facts h0 (by rw [p65]; omega)
    rw [p67] at n3
    generalize hN : nearI n = N at *
    have h1 := add_fd (e := 0) (x := x) (y := y) (fz _ (by omega)) (fz _ (by omega)) rx (rz _ (by omega)) (fz _ (by omega))
    rw [← hxy, ← n2] at h1
    have h2 := sub_fd (e := 0) (x := N) (y := x) (fz _ (by omega)) (fz _ (by omega)) n1 rx (fz _ (by omega))
    have h3 := sub_fd (e := 0) (x := N) (y := N - x) (fz _ (by omega)) (fz _ (by omega)) n1 (rz _ (by omega)) (fz _ (by omega))
    have h4 := sub_fd (e := 0) (x := x) (y := N - (N - x)) (fz _ (by omega)) (fz _ (by omega)) rx (by rw [show N - (N - x) = x by omega]; exact rx) (fz _ (by omega))
    have h5 := sub_fd (e := 0) (x := y) (y := N - x) (fz _ (by omega)) (fz _ (by omega)) (rz _ (by omega)) (rz _ (by omega)) (fz _ (by omega))
    have h6 := add_fd (e := 0) (x := x - (N - (N - x))) (y := y - (N - x)) (fz _ (by omega)) (fz _ (by omega)) (rz _ (by omega)) (rz _ (by omega)) (fz _ (by omega))
    refine sumF_any _ _ _ _ _ _ _ _ _ _ w h1 h2 h3 h4 h5 h6 ?_
    intro w
    rw [show x - (N - (N - x)) + (y - (N - x)) = n - N by omega, n2]
    have hb := bl_le (n := n.natAbs) (k := 65) (by rw [p65]; omega)
    have hbp := bl_pos (n := n.natAbs) (by omega)
    have hq := ord_fd (e := 0) (z := n - N) (fz _ (by omega)) (by have := bl_le (n := (n - N).natAbs) (k := 70) (by rw [p70]; omega); omega)
    rw [n5] at hq
    have := around_round (decide (n < 0)) n.natAbs 0 _ w (by omega) (by omega) (by omega) hq
    unfold wholeLo wholeHi
    rw [if_neg h0, if_neg h0]
    exact this
end Go.Proofs.YtonhpkigoplmaaaGreatDoor
