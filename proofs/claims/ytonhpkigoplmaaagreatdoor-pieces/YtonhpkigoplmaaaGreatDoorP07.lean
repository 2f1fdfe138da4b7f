/-
  TwoM, TwoS, PosM, FOrd, SumG.
-/
import Derived.Test.YtonhpkigoplmaaaGreatDoorP06
namespace Go.Proofs.YtonhpkigoplmaaaGreatDoor
open Go.RowKit Go.Extern Ieee

/-- A power of two. -/
def Pw (h : Int) : Prop := ∃ k : Nat, h = ((2 ^ k : Nat) : Int)

theorem Pw.pos {h : Int} (p : Pw h) : 0 < h := by
  obtain ⟨k, rfl⟩ := p
  exact_mod_cast Nat.two_pow_pos k

theorem Pw.dvd {g h : Int} (pg : Pw g) (ph : Pw h) (hle : g ≤ h) : g ∣ h := by
  obtain ⟨k, rfl⟩ := pg
  obtain ⟨l, rfl⟩ := ph
  have : (2 : Nat) ^ k ≤ 2 ^ l := by exact_mod_cast hle
  have hkl : k ≤ l := (Nat.pow_le_pow_iff_right (by decide)).1 this
  exact Int.natCast_dvd_natCast.2 (Nat.pow_dvd_pow 2 hkl)

theorem Pw.two {h : Int} (p : Pw h) : Pw (2 * h) := by
  obtain ⟨k, rfl⟩ := p
  exact ⟨k + 1, by rw [Nat.pow_succ, Int.natCast_mul, Int.mul_comm]; rfl⟩

theorem bl_gt {n k : Nat} (h : 2 ^ k ≤ n) : k < bl n := by
  have h0 : 0 < n := Nat.lt_of_lt_of_le (Nat.two_pow_pos k) h
  have := (bl_bounds h0).2.1
  exact (Nat.pow_lt_pow_iff_right (by decide)).1 (Nat.lt_of_le_of_lt h this)

theorem inex_full {m : Nat} (h : m ≤ 9007199254740992) : inex m = false := by
  by_cases h2 : m = 9007199254740992
  · subst h2; unfold inex; rw [bl54]; rfl
  · exact inex_small (bl_le (by rw [p53]; omega))

theorem rep_pw {x h : Int} (p : Pw h) (hd : h ∣ x) (hb : x.natAbs ≤ 9007199254740992 * h) : Rep x := by
  obtain ⟨k, rfl⟩ := p
  obtain ⟨m, rfl⟩ := hd
  have hp := Nat.two_pow_pos k
  have hm : m.natAbs ≤ 9007199254740992 := by
    rw [Int.natAbs_mul, Int.natAbs_natCast] at hb
    have : 2 ^ k * m.natAbs ≤ 2 ^ k * 9007199254740992 := by
      have h2 : ((2 ^ k * m.natAbs : Nat) : Int) ≤ ((2 ^ k * 9007199254740992 : Nat) : Int) := by
        rw [Int.natCast_mul (2 ^ k) 9007199254740992, Int.mul_comm]
        exact hb
      exact_mod_cast h2
    exact Nat.le_of_mul_le_mul_left this hp
  show inex _ = false
  rw [Int.natAbs_mul, Int.natAbs_natCast, Nat.mul_comm]
  by_cases h0 : m.natAbs = 0
  · rw [h0, Nat.zero_mul]; rfl
  · exact inex_shift h0 _ (inex_full hm)

theorem rep_zero : Rep 0 := rfl

theorem rep_neg {z : Int} (h : Rep z) : Rep (-z) := by
  show inex _ = false
  rw [Int.natAbs_neg]; exact h

theorem inex_mod {n : Nat} (h : inex n = false) : n % 2 ^ (bl n - 53) = 0 := by
  unfold inex at h
  rw [decide_eq_false_iff_not] at h
  by_cases hb : 53 < bl n
  · apply Decidable.byContradiction
    intro hc
    exact h ⟨hb, hc⟩
  · rw [show bl n - 53 = 0 by omega, Nat.pow_zero, Nat.mod_one]

theorem rep_dvd {z h : Int} (p : Pw h) (hr : Rep z) (hb : 4503599627370496 * h ≤ z.natAbs) : h ∣ z := by
  obtain ⟨k, rfl⟩ := p
  have hm := inex_mod hr
  have hb' : 2 ^ (52 + k) ≤ z.natAbs := by
    rw [Nat.pow_add, p52]
    generalize 2 ^ k = g at *
    omega
  have hk : 52 + k < bl z.natAbs := bl_gt hb'
  have : 2 ^ k ∣ z.natAbs := Nat.dvd_trans (Nat.pow_dvd_pow 2 (by omega)) (Nat.dvd_of_mod_eq_zero hm)
  exact Int.ofNat_dvd_left.2 this

theorem dvd_gap {h x y : Int} (hp : 0 < h) (hx : h ∣ x) (hy : h ∣ y) (hlt : x < y) : x + h ≤ y := by
  obtain ⟨a, rfl⟩ := hx
  obtain ⟨b, rfl⟩ := hy
  have : a < b := Int.lt_of_mul_lt_mul_left hlt (Int.le_of_lt hp)
  have : h * (a + 1) ≤ h * b := Int.mul_le_mul_of_nonneg_left (by omega) (Int.le_of_lt hp)
  rw [Int.mul_add, Int.mul_one] at this
  exact this

/-- The nearest float is not farther than another one. -/
theorem nearM_best (n w : Nat) (hw : inex w = false) : ((n : Int) - nearM n).natAbs ≤ ((n : Int) - w).natAbs := by
  by_cases hb : bl n ≤ 53
  · unfold nearM; rw [if_pos hb]; omega
  · have hn0 : 0 < n := by
      rcases Nat.eq_zero_or_pos n with h | h
      · subst h; exact absurd (show bl 0 ≤ 53 by decide) hb
      · exact h
    have hpw : Pw ((2 ^ (bl n - 53) : Nat) : Int) := ⟨_, rfl⟩
    have hmf : mf n = n / 2 ^ (bl n - 53) := by unfold mf; rw [if_neg hb]
    obtain ⟨m1, m2⟩ := mf_bounds hn0
    have hd := Nat.div_add_mod n (2 ^ (bl n - 53))
    have hl := Nat.mod_lt n (Nat.two_pow_pos (bl n - 53))
    have hN : nearM n = (mf n + if nup n then 1 else 0) * 2 ^ (bl n - 53) := by unfold nearM; rw [if_neg hb]
    have hu : nup n = (decide (2 ^ (bl n - 53) < 2 * (n % 2 ^ (bl n - 53))) || (2 ^ (bl n - 53) == 2 * (n % 2 ^ (bl n - 53)) && (n / 2 ^ (bl n - 53)) % 2 == 1)) := by
      unfold nup; rw [decide_eq_true (show 53 < bl n by omega), Bool.true_and]
    have hwr : Rep (w : Int) := by show inex _ = false; rw [Int.natAbs_natCast]; exact hw
    rw [← hmf] at hd hu
    rw [hN]
    have hrw := rep_dvd (z := (w : Int)) hpw hwr
    rw [Int.natAbs_natCast] at hrw
    generalize hg : 2 ^ (bl n - 53) = g at *
    have hgp : 0 < g := by rw [← hg]; exact Nat.two_pow_pos _
    generalize n % g = r at *
    generalize mf n = q at *
    have hw2 : (w : Int) ≤ g * q ∨ (g : Int) * q + g ≤ w := by
      by_cases hs : 4503599627370496 * (g : Int) ≤ (w : Int)
      · have hdv := hrw hs
        by_cases hlt : (g : Int) * q < w
        · right
          exact dvd_gap (by omega) ⟨_, rfl⟩ hdv hlt
        · left; omega
      · left
        have : (g : Int) * 4503599627370496 ≤ g * q := Int.mul_le_mul_of_nonneg_left (by omega) (by omega)
        omega
    have hd' : (g : Int) * q + r = n := by exact_mod_cast hd
    have hNe : (((q + if nup n = true then 1 else 0) * g : Nat) : Int) = (g : Int) * q + (if nup n = true then (g : Int) else 0) := by
      cases nup n
      · simp only [Bool.false_eq_true, if_false, Nat.add_zero, Int.natCast_mul, Int.add_zero]; exact Int.mul_comm _ _
      · simp only [if_true, Int.natCast_mul, Int.natCast_add, Int.add_mul]
        rw [Int.mul_comm (q : Int)]; simp
    rw [hNe]
    generalize (g : Int) * q = Q at *
    have hcase : (nup n = true → g ≤ 2 * r) ∧ (nup n = false → 2 * r ≤ g) := by
      rw [hu]
      constructor
      · intro h
        rw [Bool.or_eq_true] at h
        rcases h with h | h
        · rw [decide_eq_true_eq] at h; omega
        · rw [Bool.and_eq_true, beq_iff_eq] at h; omega
      · intro h
        rw [Bool.or_eq_false_iff] at h
        have := h.1
        rw [decide_eq_false_iff_not] at this; omega
    cases hnu : nup n
    · have := hcase.2 hnu
      simp only [Bool.false_eq_true, if_false]
      omega
    · have := hcase.1 hnu
      simp only [if_true]
      omega

theorem nearI_abs (z : Int) : (nearI z).natAbs = nearM z.natAbs := by unfold nearI; exact (sg_natAbs rfl).symm

theorem nearI_sgn (z : Int) : (z < 0 → nearI z = -(nearM z.natAbs : Int)) ∧ (¬ z < 0 → nearI z = (nearM z.natAbs : Int)) := by
  unfold nearI sg
  constructor
  · intro h; rw [decide_eq_true h, if_pos rfl]
  · intro h; rw [decide_eq_false h, if_neg Bool.false_ne_true]

theorem nearI_zero : nearI 0 = 0 := rfl

theorem nearI_rep (z : Int) : Rep (nearI z) := by
  show inex _ = false
  rw [nearI_abs]
  by_cases h : z.natAbs = 0
  · rw [h]; rfl
  · exact (nearM_facts h).2.1

theorem near_best (z w : Int) (hw : Rep w) : (z - nearI z).natAbs ≤ (z - w).natAbs := by
  have h1 := nearM_best z.natAbs w.natAbs hw
  have h0 := nearM_best z.natAbs 0 rfl
  by_cases hz : z < 0
  · have := (nearI_sgn z).1 hz
    omega
  · have := (nearI_sgn z).2 hz
    omega

theorem near_rep {z : Int} (h : Rep z) : nearI z = z := by
  have := near_best z z h
  omega

theorem near_le {z w : Int} (hw : Rep w) (h : z ≤ w) : nearI z ≤ w := by
  have := near_best z w hw
  omega

theorem near_ge {z w : Int} (hw : Rep w) (h : w ≤ z) : w ≤ nearI z := by
  have := near_best z w hw
  omega

theorem near_half {z g : Int} (p : Pw g) (h : z.natAbs ≤ 9007199254740992 * g) : 2 * ((z - nearI z).natAbs : Int) ≤ g := by
  have gp := p.pos
  have hd := Int.mul_ediv_add_emod z g
  have m1 := Int.emod_nonneg z (Int.ne_of_gt gp)
  have m2 := Int.emod_lt_of_pos z gp
  have d1 : g ∣ g * (z / g) := ⟨_, rfl⟩
  have d2 : g ∣ g * (z / g) + g := Int.dvd_add d1 (Int.dvd_refl g)
  have d3 : g ∣ 9007199254740992 * g := ⟨9007199254740992, Int.mul_comm _ _⟩
  have d4 : g ∣ -(9007199254740992 * g) := Int.dvd_neg.2 d3
  generalize g * (z / g) = f at *
  generalize z % g = r at *
  have b1 : -(9007199254740992 * g) ≤ f := by
    rcases (show -(9007199254740992 * g) ≤ f ∨ f < -(9007199254740992 * g) by omega) with h' | h'
    · exact h'
    · have := dvd_gap gp d1 d4 h'; omega
  by_cases hr : 2 * r ≤ g
  · have := near_best z f (rep_pw p d1 (by omega))
    omega
  · have : f + g ≤ 9007199254740992 * g := by
      rcases (show f + g ≤ 9007199254740992 * g ∨ 9007199254740992 * g < f + g by omega) with h' | h'
      · exact h'
      · have := dvd_gap gp d3 d2 h'; omega
    have := near_best z (f + g) (rep_pw p d2 (by omega))
    omega

theorem near_dvd {z g : Int} (p : Pw g) (h : g ∣ z) : g ∣ nearI z := by
  by_cases hs : (z.natAbs : Int) ≤ 9007199254740992 * g
  · rw [near_rep (rep_pw p h hs)]; exact h
  · have gp := p.pos
    have d3 : g ∣ 9007199254740992 * g := ⟨9007199254740992, Int.mul_comm _ _⟩
    have r3 : Rep (9007199254740992 * g) := rep_pw p d3 (by omega)
    by_cases hz : z < 0
    · have := near_le (z := z) (rep_neg r3) (by omega)
      exact rep_dvd p (nearI_rep z) (by omega)
    · have := near_ge (z := z) r3 (by omega)
      exact rep_dvd p (nearI_rep z) (by omega)

/-- Half the last place of a float. -/
theorem rep_ulp {z : Int} (hr : Rep z) (h : 9007199254740992 ≤ z.natAbs) : ∃ u, Pw u ∧ 2 * u ∣ z ∧ 9007199254740992 * u ≤ z.natAbs ∧ (z.natAbs : Int) < 18014398509481984 * u := by
  have h0 : 0 < z.natAbs := by omega
  obtain ⟨b1, b2, b3⟩ := bl_bounds h0
  have hk : 53 < bl z.natAbs := bl_gt (by rw [p53]; exact h)
  have e2 : ((2 ^ (bl z.natAbs - 54) * 2 : Nat) : Int) = 2 * ((2 ^ (bl z.natAbs - 54) : Nat) : Int) := by rw [Int.natCast_mul, Int.mul_comm]; rfl
  refine ⟨((2 ^ (bl z.natAbs - 54) : Nat) : Int), ⟨_, rfl⟩, ?_, ?_, ?_⟩
  · rw [← e2, ← Nat.pow_succ, show (bl z.natAbs - 54).succ = bl z.natAbs - 53 by omega]
    exact Int.ofNat_dvd_left.2 (Nat.dvd_of_mod_eq_zero (inex_mod hr))
  · have : 9007199254740992 * 2 ^ (bl z.natAbs - 54) ≤ z.natAbs := by
      rw [← p53, ← Nat.pow_add, show 53 + (bl z.natAbs - 54) = bl z.natAbs - 1 by omega]; exact b1
    generalize 2 ^ (bl z.natAbs - 54) = g at *
    omega
  · have : z.natAbs < 18014398509481984 * 2 ^ (bl z.natAbs - 54) := by
      have p54 : (18014398509481984 : Nat) = 2 ^ 54 := by decide
      rw [p54, ← Nat.pow_add, show 54 + (bl z.natAbs - 54) = bl z.natAbs by omega]; exact b2
    generalize 2 ^ (bl z.natAbs - 54) = g at *
    omega
end Go.Proofs.YtonhpkigoplmaaaGreatDoor
namespace Go.Proofs.YtonhpkigoplmaaaGreatDoor
open Go.RowKit Go.Extern Ieee

/-- What the six sums need. -/
def TwoOk (a b : Int) : Prop := Rep (nearI (a + b) - nearI (nearI (a + b) - a)) ∧ Rep (a - (nearI (a + b) - nearI (nearI (a + b) - a))) ∧ Rep (b - nearI (nearI (a + b) - a)) ∧ Rep (a + b - nearI (a + b))

theorem twoOk_of {a b N V : Int} (hN : nearI (a + b) = N) (hV : nearI (N - a) = V) (h1 : Rep (N - V)) (h2 : Rep (a - (N - V))) (h3 : Rep (b - V)) (h4 : Rep (a + b - N)) : TwoOk a b := by
  unfold TwoOk
  rw [hN, hV]
  exact ⟨h1, h2, h3, h4⟩

theorem near_neg (z : Int) : nearI (-z) = -nearI z := by
  by_cases h0 : z = 0
  · subst h0; rfl
  · by_cases hz : z < 0
    · have h1 := (nearI_sgn z).1 hz
      have h2 := (nearI_sgn (-z)).2 (by omega)
      rw [Int.natAbs_neg] at h2
      omega
    · have h1 := (nearI_sgn z).2 hz
      have h2 := (nearI_sgn (-z)).1 (by omega)
      rw [Int.natAbs_neg] at h2
      omega

theorem TwoOk.neg {a b : Int} (h : TwoOk (-a) (-b)) : TwoOk a b := by
  unfold TwoOk at *
  rw [show -a + -b = -(a + b) by omega, near_neg] at h
  rw [show -nearI (a + b) - -a = -(nearI (a + b) - a) by omega, near_neg] at h
  generalize nearI (a + b) = N at *
  generalize nearI (N - a) = V at *
  obtain ⟨h1, h2, h3, h4⟩ := h
  refine ⟨?_, ?_, ?_, ?_⟩
  · have := rep_neg h1; rwa [show -(-N - -V) = N - V by omega] at this
  · have := rep_neg h2; rwa [show -(-a - (-N - -V)) = a - (N - V) by omega] at this
  · have := rep_neg h3; rwa [show -(-b - -V) = b - V by omega] at this
  · have := rep_neg h4; rwa [show -(-(a + b) - -N) = a + b - N by omega] at this

/-- The first one is exact. -/
theorem two_exact {a b : Int} (ra : Rep a) (rb : Rep b) (rz : Rep (a + b)) : TwoOk a b := by
  have hN := near_rep rz
  have hV : nearI (a + b - a) = b := by rw [show a + b - a = b by omega]; exact near_rep rb
  refine twoOk_of hN hV ?_ ?_ ?_ ?_
  · rwa [show a + b - b = a by omega]
  · rw [show a - (a + b - b) = 0 by omega]; exact rep_zero
  · rw [Int.sub_self]; exact rep_zero
  · rw [Int.sub_self]; exact rep_zero

/-- The second one is exact too. -/
theorem two_dekker {a b : Int} (ra : Rep a) (rV : Rep (nearI (a + b) - a)) (rz : Rep (a + b - nearI (a + b))) : TwoOk a b := by
  refine twoOk_of rfl (near_rep rV) ?_ ?_ ?_ rz
  · rwa [show nearI (a + b) - (nearI (a + b) - a) = a by omega]
  · rw [show a - (nearI (a + b) - (nearI (a + b) - a)) = 0 by omega]; exact rep_zero
  · rwa [show b - (nearI (a + b) - a) = a + b - nearI (a + b) by omega]

theorem dvd_two {u z : Int} (h : 2 * u ∣ z) : u ∣ z := Int.dvd_trans ⟨2, by omega⟩ h

theorem ulp_dvd {u v z : Int} (pu : Pw u) (pv : Pw v) (hle : u ≤ v) (h : 2 * v ∣ z) : 2 * u ∣ z :=
  Int.dvd_trans (pu.two.dvd pv.two (by omega)) h

theorem two_big {a b u v : Int} (ra : Rep a) (rb : Rep b) (pu : Pw u) (pv : Pw v) (ua : 2 * u ∣ a) (vb : 2 * v ∣ b) (a1 : 9007199254740992 * u ≤ a) (a2 : a < 18014398509481984 * u) (b1 : 9007199254740992 * v ≤ b.natAbs) (b2 : (b.natAbs : Int) < 18014398509481984 * v) (hab : (b.natAbs : Int) ≤ a) : TwoOk a b := by
  have u0 := pu.pos
  have v0 := pv.pos
  have hvu : v ≤ u := by
    rcases (show v ≤ u ∨ u < v by omega) with h | h
    · exact h
    · have := dvd_gap u0 (Int.dvd_refl u) (pu.dvd pv (by omega)) h
      omega
  have va : 2 * v ∣ a := ulp_dvd pv pu hvu ua
  have vz : 2 * v ∣ a + b := Int.dvd_add va vb
  have vN := near_dvd pv.two vz
  have rz : Rep (a + b - nearI (a + b)) := by
    have h1 := near_best (a + b) a ra
    exact rep_pw pv.two (Int.dvd_sub vz vN) (by omega)
  have a3 : a + 2 * u ≤ 18014398509481984 * u := dvd_gap pu.two.pos ua ⟨9007199254740992, by omega⟩ a2
  by_cases hb : 0 ≤ b
  · have hh := near_half (z := a + b) pu.two.two (by omega)
    have hge := near_ge (z := a + b) ra (by omega)
    have uN := rep_dvd (z := nearI (a + b)) pu.two (nearI_rep _) (by omega)
    exact two_dekker ra (rep_pw pu.two (Int.dvd_sub uN ua) (by omega)) rz
  · by_cases hs : a ≤ 2 * (-b)
    · exact two_exact ra rb (rep_pw pv.two vz (by omega))
    · have hh := near_half (z := a + b) pu.two (by omega)
      have r52 : Rep (4503599627370496 * u) := rep_pw pu ⟨4503599627370496, Int.mul_comm _ _⟩ (by omega)
      have hge := near_ge (z := a + b) r52 (by omega)
      have uN := rep_dvd (z := nearI (a + b)) pu (nearI_rep _) (by omega)
      exact two_dekker ra (rep_pw pu (Int.dvd_sub uN (dvd_two ua)) (by omega)) rz

theorem two_small {a b u v : Int} (ra : Rep a) (rb : Rep b) (pu : Pw u) (pv : Pw v) (ub : 2 * u ∣ b) (va : 2 * v ∣ a) (b1 : 9007199254740992 * u ≤ b) (b2 : b < 18014398509481984 * u) (a1 : 9007199254740992 * v ≤ a.natAbs) (a2 : (a.natAbs : Int) < 18014398509481984 * v) (hab : (a.natAbs : Int) < b) : TwoOk a b := by
  have u0 := pu.pos
  have v0 := pv.pos
  have hvu : v ≤ u := by
    rcases (show v ≤ u ∨ u < v by omega) with h | h
    · exact h
    · have := dvd_gap u0 (Int.dvd_refl u) (pu.dvd pv (by omega)) h
      omega
  have vb : 2 * v ∣ b := ulp_dvd pv pu hvu ub
  have vz : 2 * v ∣ a + b := Int.dvd_add va vb
  have b3 : b + 2 * u ≤ 18014398509481984 * u := dvd_gap pu.two.pos ub ⟨9007199254740992, by omega⟩ b2
  by_cases hs : a < 0 ∧ b ≤ 2 * (-a)
  · exact two_exact ra rb (rep_pw pv.two vz (by omega))
  · have hz2 : b ≤ 2 * (a + b) := by omega
    have hh := near_half (z := a + b) pu.two.two (by omega)
    have vN := near_dvd pv.two vz
    have hzb := near_best (a + b) b rb
    have rz : Rep (a + b - nearI (a + b)) := rep_pw pv.two (Int.dvd_sub vz vN) (by omega)
    have rN := nearI_rep (a + b)
    have r52 : Rep (4503599627370496 * u) := rep_pw pu ⟨4503599627370496, Int.mul_comm _ _⟩ (by omega)
    have r53 : Rep (9007199254740992 * u) := rep_pw pu ⟨9007199254740992, Int.mul_comm _ _⟩ (by omega)
    have r54 : Rep (18014398509481984 * u) := rep_pw pu.two ⟨9007199254740992, by omega⟩ (by omega)
    have r53m : Rep (9007199254740990 * u) := rep_pw pu ⟨9007199254740990, Int.mul_comm _ _⟩ (by omega)
    have hge := near_ge (z := a + b) r52 (by omega)
    have uN := rep_dvd pu rN (by omega)
    have hlt54 : nearI (a + b) < 18014398509481984 * u → a + b < 18014398509481984 * u := by
      intro h
      rcases (show a + b < 18014398509481984 * u ∨ 18014398509481984 * u ≤ a + b by omega) with h' | h'
      · exact h'
      · have := near_ge (z := a + b) r54 h'; omega
    have hhs : a + b < 18014398509481984 * u → 2 * ((a + b - nearI (a + b)).natAbs : Int) ≤ 2 * u := by
      intro h
      exact near_half pu.two (by omega)
    generalize hN : nearI (a + b) = N at *
    have hV1 := near_half (z := N - a) pu.two (by omega)
    have hV2 := near_ge (z := N - a) r53m (by omega)
    have rV := nearI_rep (N - a)
    have uV := rep_dvd pu rV (by omega)
    have vt : 2 * v ∣ N - a := Int.dvd_sub vN va
    have vV := near_dvd pv.two vt
    have hVb := near_best (N - a) N rN
    have hV3 : 9007199254740992 * u ≤ N - a → 9007199254740992 * u ≤ nearI (N - a) := fun h => near_ge r53 h
    generalize hV : nearI (N - a) = V at *
    refine twoOk_of hN hV ?_ ?_ ?_ rz
    · by_cases hbig : 18014398509481984 * u ≤ N
      · have u2N := rep_dvd pu.two rN (by omega)
        have ht : 9007199254740992 * u ≤ N - a := by
          rcases (show a ≤ 9007199254740992 * u ∨ 9007199254740992 * u < a by omega) with h | h
          · omega
          · have u2a := rep_dvd pu.two ra (by omega)
            have := dvd_gap pu.two.pos u2a ub (by omega)
            omega
        have := hV3 ht
        have u2V := rep_dvd pu.two rV (by omega)
        exact rep_pw pu.two (Int.dvd_sub u2N u2V) (by omega)
      · have hz54 := hlt54 (by omega)
        have := hhs hz54
        have dNV := Int.dvd_sub uN uV
        have e1 : u ∣ 9007199254740993 * u := ⟨9007199254740993, Int.mul_comm _ _⟩
        have g1 : N - V + u ≤ 9007199254740993 * u := dvd_gap u0 dNV e1 (by omega)
        have g2 : -(9007199254740993 * u) + u ≤ N - V := dvd_gap u0 (Int.dvd_neg.2 e1) dNV (by omega)
        exact rep_pw pu dNV (by omega)
    · rw [show a - (N - V) = V - (N - a) by omega]
      exact rep_pw pv.two (Int.dvd_sub vV vt) (by omega)
    · exact rep_pw pu (Int.dvd_sub (dvd_two ub) uV) (by omega)

theorem two_sum {a b : Int} (ra : Rep a) (rb : Rep b) (ha : a = 0 ∨ 9007199254740992 ≤ a.natAbs) (hb : b = 0 ∨ 9007199254740992 ≤ b.natAbs) : TwoOk a b := by
  rcases ha with rfl | ha
  · exact two_exact ra rb (by rw [Int.zero_add]; exact rb)
  rcases hb with rfl | hb
  · exact two_exact ra rb (by rw [Int.add_zero]; exact ra)
  obtain ⟨u, pu, ua, u1, u2⟩ := rep_ulp ra ha
  obtain ⟨v, pv, vb, v1, v2⟩ := rep_ulp rb hb
  by_cases h : b.natAbs ≤ a.natAbs
  · by_cases h0 : 0 < a
    · exact two_big ra rb pu pv ua vb (by omega) (by omega) v1 v2 (by omega)
    · apply TwoOk.neg
      refine two_big (rep_neg ra) (rep_neg rb) pu pv (Int.dvd_neg.2 ua) (Int.dvd_neg.2 vb) (by omega) (by omega) ?_ ?_ ?_ <;> rw [Int.natAbs_neg] <;> omega
  · by_cases h0 : 0 < b
    · exact two_small ra rb pv pu vb ua (by omega) (by omega) u1 u2 (by omega)
    · apply TwoOk.neg
      refine two_small (rep_neg ra) (rep_neg rb) pv pu (Int.dvd_neg.2 vb) (Int.dvd_neg.2 ua) (by omega) (by omega) ?_ ?_ ?_ <;> rw [Int.natAbs_neg] <;> omega
end Go.Proofs.YtonhpkigoplmaaaGreatDoor
namespace Go.Proofs.YtonhpkigoplmaaaGreatDoor
open Go.RowKit Go.Extern Ieee

/-- An amount's rung, with one place for all that is too small and one for all that is too great. -/
def clampR (r : Int) : Int := if r < 553942754166571008 then 553942754166571007 else if 8660422083433463808 < r then 8660422083433463809 else r
def sgI (s : Bool) (r : Int) : Int := if s then -r else r

/-- The rung of a number's end, off 0 where the way goes so. -/
def endR (s : Bool) (n : Nat) (e way : Int) : Int := rung n e + if offS s way && inex n then 1 else 0

def posV (x : Bool × Nat × Int) (way : Int) : Int := if x.2.1 = 0 then 0 else sgI x.1 (clampR (endR x.1 x.2.1 x.2.2 way))
def posF (d : Nat) : Int := if d % 9223372036854775808 = 0 then 0 else sgI (decide (9223372036854775808 ≤ d)) (clampR ((d % 9223372036854775808 : Nat) : Int))

/-- Is a place a plain float's? -/
def plP (p : Int) : Bool := decide (p = 0 ∨ 553942754166571008 ≤ p.natAbs ∧ p.natAbs ≤ 8660422083433463808)
def wdP (p : Int) : Nat := wd (decide (p < 0)) p.natAbs

/-- The two ends and the error of two places. -/
def boxP (p q : Int) : Nat × Nat × Nat := if plP p = true ∧ plP q = true then (wdP p, wdP q, 0) else (0, 0, 3)

theorem clampR_bounds (r : Int) : 553942754166571007 ≤ clampR r ∧ clampR r ≤ 8660422083433463809 := by
  unfold clampR; split
  · omega
  · split <;> omega

theorem clampR_mono {r t : Int} (h : r ≤ t) : clampR r ≤ clampR t := by
  unfold clampR; repeat' split
  all_goals omega

theorem roundN_posV (x : Bool × Nat × Int) (way : Int) : roundN x.1 x.2.1 x.2.2 way = if plP (posV x way) = true then (wdP (posV x way), true) else (0, false) := by
  obtain ⟨s, n, e⟩ := x
  by_cases h0 : n = 0
  · subst h0
    have : posV (s, 0, e) way = 0 := by unfold posV; rw [if_pos rfl]
    rw [this]
    unfold roundN
    rw [if_pos rfl]; rfl
  · have : posV (s, n, e) way = sgI s (clampR (endR s n e way)) := by unfold posV; rw [if_neg h0]
    rw [this]
    show roundN s n e way = _
    rw [roundN_rung s e way h0]
    show rngW s (endR s n e way) = _
    generalize endR s n e way = r
    unfold rngW plP wdP sgI clampR wd
    by_cases h1 : r < 553942754166571008
    · rw [if_neg (by omega), if_pos h1]
      cases s
      · simp
      · simp
    · by_cases h2 : 8660422083433463808 < r
      · rw [if_neg (by omega), if_neg h1, if_pos h2]
        cases s
        · simp
        · simp
      · rw [if_pos (by omega), if_neg h1, if_neg h2]
        cases s
        · rw [if_neg Bool.false_ne_true, if_neg Bool.false_ne_true, decide_eq_true (by omega), if_pos rfl, decide_eq_false (by omega), if_neg Bool.false_ne_true]
          congr 1; omega
        · rw [if_pos rfl, if_pos rfl, decide_eq_true (by omega), if_pos rfl, decide_eq_true (by omega), if_pos rfl]
          congr 1; omega

theorem aroundN_posV (x y : Bool × Nat × Int) : aroundN x y = boxP (posV x (-1)) (posV y 1) := by
  unfold aroundN boxP
  rw [roundN_posV, roundN_posV]
  cases plP (posV x (-1)) <;> cases plP (posV y 1) <;> rfl

theorem inex_shift_iff {n : Nat} (h : n ≠ 0) (k : Nat) : inex (n * 2 ^ k) = inex n := by
  cases hi : inex n
  · exact inex_shift h k hi
  · unfold inex at hi ⊢
    rw [decide_eq_true_eq] at hi ⊢
    rw [bl_shift h]
    refine ⟨by omega, ?_⟩
    rw [show bl n + k - 53 = (bl n - 53) + k by omega, Nat.pow_add, Nat.mul_mod_mul_right]
    intro hc
    rcases Nat.mul_eq_zero.1 hc with hc | hc
    · exact hi.2 hc
    · exact Nat.pos_iff_ne_zero.1 (Nat.two_pow_pos k) hc

theorem rung_shift {n : Nat} (h : n ≠ 0) (k : Nat) (e : Int) : rung (n * 2 ^ k) e = rung n (e + k) := by
  unfold rung
  rw [mf_shift h, bl_shift h]
  congr 2
  omega

theorem endR_shift (s : Bool) {n : Nat} (h : n ≠ 0) (k : Nat) (e way : Int) : endR s (n * 2 ^ k) e way = endR s n (e + k) way := by
  unfold endR
  rw [rung_shift h, inex_shift_iff h]

theorem bl_mono {n m : Nat} (h0 : n ≠ 0) (h : n ≤ m) : bl n ≤ bl m := by
  have h1 := bl_bounds (Nat.pos_of_ne_zero h0)
  have h2 := bl_bounds (n := m) (by omega)
  apply Decidable.byContradiction
  intro hc
  have : (2 : Nat) ^ bl m ≤ 2 ^ (bl n - 1) := Nat.pow_le_pow_right (by decide) (by omega)
  omega

/-- A greater amount, no lower rung. -/
theorem rung_mono {n m : Nat} (e : Int) (h0 : n ≠ 0) (h : n ≤ m) : rung n e ≤ rung m e ∧ (rung n e + if inex n then 1 else 0) ≤ (rung m e + if inex m then 1 else 0) := by
  have hb := bl_mono h0 h
  have m1 := mf_bounds (Nat.pos_of_ne_zero h0)
  have m2 := mf_bounds (n := m) (by omega)
  have i1 : ∀ b : Bool, (0 : Int) ≤ (if b then 1 else 0) ∧ (if b then (1 : Int) else 0) ≤ 1 := by intro b; cases b <;> decide
  by_cases heq : bl n = bl m
  · have hr : rung n e - rung m e = (mf n : Int) - mf m := by unfold rung; rw [heq]; omega
    by_cases h53 : bl n ≤ 53
    · have e1 : inex n = false := inex_small h53
      have e2 : inex m = false := inex_small (by omega)
      have : mf n ≤ mf m := by
        unfold mf
        rw [if_pos h53, if_pos (by omega), heq]
        exact Nat.mul_le_mul_right _ h
      rw [e1, e2]
      simp only [Bool.false_eq_true, if_false]
      omega
    · have f1 : mf n = n / 2 ^ (bl m - 53) := by unfold mf; rw [if_neg h53, heq]
      have f2 : mf m = m / 2 ^ (bl m - 53) := by unfold mf; rw [if_neg (by omega)]
      have x1 : inex n = decide (n % 2 ^ (bl m - 53) ≠ 0) := by unfold inex; rw [heq]; simp [show 53 < bl m by omega]
      have x2 : inex m = decide (m % 2 ^ (bl m - 53) ≠ 0) := by unfold inex; simp [show 53 < bl m by omega]
      have hp := Nat.two_pow_pos (bl m - 53)
      have d1 := Nat.div_add_mod n (2 ^ (bl m - 53))
      have d2 := Nat.div_add_mod m (2 ^ (bl m - 53))
      have hle : mf n ≤ mf m := by rw [f1, f2]; exact Nat.div_le_div_right h
      have hlt : mf n = mf m → n % 2 ^ (bl m - 53) ≤ m % 2 ^ (bl m - 53) := by
        intro hc
        rw [f1, f2] at hc
        rw [hc] at d1
        omega
      rw [x1, x2]
      generalize n % 2 ^ (bl m - 53) = r at *
      generalize m % 2 ^ (bl m - 53) = t at *
      refine ⟨by omega, ?_⟩
      by_cases hc : mf n = mf m
      · have := hlt hc
        by_cases hr0 : r = 0
        · have := (i1 (decide (t ≠ 0))).1
          rw [decide_eq_false (show ¬ r ≠ 0 by omega)]
          simp only [Bool.false_eq_true, if_false]
          omega
        · rw [decide_eq_true (show r ≠ 0 from hr0), decide_eq_true (show t ≠ 0 by omega)]
          omega
      · have a1 := (i1 (decide (r ≠ 0))).2
        have a2 := (i1 (decide (t ≠ 0))).1
        omega
  · have a1 := (i1 (inex n)).2
    have a2 := (i1 (inex m)).1
    generalize (if inex n = true then (1 : Int) else 0) = i at *
    generalize (if inex m = true then (1 : Int) else 0) = j at *
    unfold rung
    omega

/-- Is one number not above another? Both at one power of two. -/
def leV (x y : Bool × Nat × Int) : Prop := sg x.1 (lvA x.2.1 x.2.2 y.2.2) ≤ sg y.1 (lvB y.2.1 x.2.2 y.2.2)

theorem offS_down (s : Bool) : offS s (-1) = s := by cases s <;> rfl
theorem offS_up (s : Bool) : offS s 1 = !s := by cases s <;> rfl

theorem posV_mono {x y : Bool × Nat × Int} (way : Int) (hw : way = -1 ∨ way = 1) (h : leV x y) : posV x way ≤ posV y way := by
  obtain ⟨s, n, e⟩ := x
  obtain ⟨t, m, f⟩ := y
  unfold leV at h
  simp only at h
  have hp1 := Nat.two_pow_pos (e - min e f).toNat
  have hp2 := Nat.two_pow_pos (f - min e f).toNat
  have z1 : n ≠ 0 → lvA n e f ≠ 0 := fun hn => Nat.mul_ne_zero hn (by omega)
  have z2 : m ≠ 0 → lvB m e f ≠ 0 := fun hn => Nat.mul_ne_zero hn (by omega)
  have z1' : n = 0 → lvA n e f = 0 := fun hn => by unfold lvA; rw [hn, Nat.zero_mul]
  have z2' : m = 0 → lvB m e f = 0 := fun hn => by unfold lvB; rw [hn, Nat.zero_mul]
  have r1 : n ≠ 0 → endR s n e way = endR s (lvA n e f) (min e f) way := by
    intro hn
    unfold lvA
    rw [endR_shift s hn]
    congr 1
    omega
  have r2 : m ≠ 0 → endR t m f way = endR t (lvB m e f) (min e f) way := by
    intro hn
    unfold lvB
    rw [endR_shift t hn]
    congr 1
    omega
  unfold posV
  simp only
  generalize lvA n e f = N at *
  generalize lvB m e f = M at *
  have c1 := clampR_bounds (endR s n e way)
  have c2 := clampR_bounds (endR t m f way)
  by_cases hn : n = 0
  · rw [if_pos hn]
    have := z1' hn
    subst this
    by_cases hm : m = 0
    · rw [if_pos hm]; exact Int.le_refl _
    · rw [if_neg hm]
      have := z2 hm
      cases t
      · unfold sgI; rw [if_neg Bool.false_ne_true]; omega
      · unfold sg at h; simp at h; omega
  · rw [if_neg hn]
    have hN := z1 hn
    by_cases hm : m = 0
    · rw [if_pos hm]
      have := z2' hm
      subst this
      cases s
      · unfold sg at h; simp at h; omega
      · unfold sgI; rw [if_pos rfl]; omega
    · rw [if_neg hm]
      have hM := z2 hm
      cases s
      · cases t
        · have hle : N ≤ M := by unfold sg at h; simp at h; exact h
          unfold sgI
          rw [if_neg Bool.false_ne_true, if_neg Bool.false_ne_true]
          apply clampR_mono
          rw [r1 hn, r2 hm]
          have := rung_mono (min e f) hN hle
          unfold endR
          rcases hw with rfl | rfl
          · simp only [offS_down, Bool.false_and, Bool.false_eq_true, if_false, Int.add_zero]; exact this.1
          · simp only [offS_up, Bool.not_false, Bool.true_and]; exact this.2
        · exfalso
          unfold sg at h; simp at h; omega
      · cases t
        · unfold sgI
          rw [if_pos rfl, if_neg Bool.false_ne_true]; omega
        · have hle : M ≤ N := by unfold sg at h; simp at h; exact h
          unfold sgI
          rw [if_pos rfl, if_pos rfl]
          have : clampR (endR true m f way) ≤ clampR (endR true n e way) := by
            apply clampR_mono
            rw [r1 hn, r2 hm]
            have := rung_mono (min e f) hM hle
            unfold endR
            rcases hw with rfl | rfl
            · simp only [offS_down, Bool.true_and]; exact this.2
            · simp only [offS_up, Bool.not_true, Bool.false_and, Bool.false_eq_true, if_false, Int.add_zero]; exact this.1
          omega
end Go.Proofs.YtonhpkigoplmaaaGreatDoor
namespace Go.Proofs.YtonhpkigoplmaaaGreatDoor
open Go.RowKit Go.Extern Ieee

/-- The amount of a rung, in units of the least one. -/
def vr (r : Nat) : Nat := if r < 4503599627370496 then r else (4503599627370496 + r % 4503599627370496) * 2 ^ (r / 4503599627370496 - 1)

theorem vr_succ (r : Nat) : vr r < vr (r + 1) := by
  unfold vr
  by_cases h1 : r + 1 < 4503599627370496
  · rw [if_pos (by omega), if_pos h1]; omega
  · rw [if_neg h1]
    by_cases h2 : r < 4503599627370496
    · rw [if_pos h2]
      have e : r + 1 = 4503599627370496 := by omega
      rw [e]
      have : 4503599627370496 / 4503599627370496 - 1 = 0 := by decide
      rw [this, Nat.pow_zero]; omega
    · rw [if_neg h2]
      by_cases h3 : r % 4503599627370496 + 1 = 4503599627370496
      · have e1 : (r + 1) % 4503599627370496 = 0 := by omega
        have e2 : (r + 1) / 4503599627370496 - 1 = (r / 4503599627370496 - 1) + 1 := by omega
        rw [e1, e2, Nat.pow_succ]
        have hp := Nat.two_pow_pos (r / 4503599627370496 - 1)
        generalize 2 ^ (r / 4503599627370496 - 1) = g at *
        have e3 : r % 4503599627370496 = 4503599627370495 := by omega
        rw [e3]; omega
      · have e1 : (r + 1) % 4503599627370496 = r % 4503599627370496 + 1 := by omega
        have e2 : (r + 1) / 4503599627370496 - 1 = r / 4503599627370496 - 1 := by omega
        rw [e1, e2]
        exact Nat.mul_lt_mul_of_pos_right (by omega) (Nat.two_pow_pos _)

theorem vr_lt {r t : Nat} (h : r < t) : vr r < vr t := by
  obtain ⟨k, rfl⟩ : ∃ k, t = r + 1 + k := ⟨t - (r + 1), by omega⟩
  clear h
  induction k with
  | zero => exact vr_succ r
  | succ k ih => exact Nat.lt_trans ih (vr_succ (r + 1 + k))

theorem read_vr {s : Bool} {r : Nat} (h : r < 9218868437227405312) : ∃ m e, double.read (wd s r) = .number s m e ∧ -1074 ≤ e ∧ m * 2 ^ (e + 1074).toNat = vr r := by
  have hsw : double.signWeight = 9223372036854775808 := rfl
  have hbn : double.binade = 4503599627370496 := rfl
  have hir : double.infRung = 9218868437227405312 := rfl
  have hlp : double.leastPlace = -1074 := rfl
  have hm : wd s r % 9223372036854775808 = r := by unfold wd; split <;> omega
  have hd : (wd s r / 9223372036854775808 % 2 == 1) = s := by
    unfold wd
    cases s
    · rw [if_neg Bool.false_ne_true, show (r + 0) / 9223372036854775808 % 2 = 0 by omega]; rfl
    · rw [if_pos rfl, show (r + 9223372036854775808) / 9223372036854775808 % 2 = 1 by omega]; rfl
  unfold Format.read
  simp only [hsw, hbn, hir, hlp, hm, hd]
  unfold vr
  by_cases hs : r < 4503599627370496
  · rw [if_pos hs, if_pos hs]; exact ⟨_, _, rfl, by omega, by simp⟩
  · rw [if_neg hs, if_pos h, if_neg hs]
    refine ⟨_, _, rfl, by omega, ?_⟩
    congr 2
    omega

theorem read_wd_inf (s : Bool) : double.read (wd s 9218868437227405312) = .infinity s := by cases s <;> rfl

theorem cmp_mul {x y g : Int} (hg : 0 < g) : compare (x * g) (y * g) = compare x y := by
  rcases (show x < y ∨ x = y ∨ y < x by omega) with h | h | h
  · rw [cmp_lt' h, cmp_lt' (Int.mul_lt_mul_of_pos_right h hg)]
  · rw [cmp_eq' h, cmp_eq' (by rw [h])]
  · rw [cmp_gt' h, cmp_gt' (Int.mul_lt_mul_of_pos_right h hg)]

theorem sg_mul (s : Bool) (n k : Nat) : sg s n * (k : Int) = sg s (n * k) := by
  unfold sg
  cases s
  · rw [if_neg Bool.false_ne_true, if_neg Bool.false_ne_true, Int.natCast_mul]
  · rw [if_pos rfl, if_pos rfl, Int.natCast_mul, Int.neg_mul]

theorem cmp_vr (s t : Bool) (r q : Nat) : compare (sg s (vr r)) (sg t (vr q)) = compare (sg s r) (sg t q) := by
  have z : ∀ r, (vr r = 0 ↔ r = 0) := by
    intro r
    constructor
    · intro h
      rcases Nat.eq_zero_or_pos r with h' | h'
      · exact h'
      · have := vr_lt h'; omega
    · rintro rfl; rfl
  have zr := z r
  have zq := z q
  have l1 : r < q → vr r < vr q := vr_lt
  have l2 : q < r → vr q < vr r := vr_lt
  have l3 : r = q → vr r = vr q := fun h => by rw [h]
  generalize vr r = a at *
  generalize vr q = b at *
  have key : ∀ x y x' y' : Int, (x < y ↔ x' < y') → (x = y ↔ x' = y') → compare x y = compare x' y' := by
    intro x y x' y' h1 h2
    rcases (show x < y ∨ x = y ∨ y < x by omega) with h | h | h
    · rw [cmp_lt' h, cmp_lt' (h1.1 h)]
    · rw [cmp_eq' h, cmp_eq' (h2.1 h)]
    · rw [cmp_gt' h, cmp_gt' (by omega)]
  apply key <;> unfold sg <;> cases s <;> cases t <;> simp <;> omega

theorem order_wd {s t : Bool} {r q : Nat} (hr : r ≤ 9218868437227405312) (hq : q ≤ 9218868437227405312) : double.order (wd s r) (wd t q) = some (compare (sg s r) (sg t q)) := by
  unfold Format.order
  rcases (show r < 9218868437227405312 ∨ r = 9218868437227405312 by omega) with h1 | h1 <;> rcases (show q < 9218868437227405312 ∨ q = 9218868437227405312 by omega) with h2 | h2
  · obtain ⟨m, i, e1, e2, e3⟩ := read_vr (s := s) h1
    obtain ⟨n, j, f1, f2, f3⟩ := read_vr (s := t) h2
    rw [e1, f1]
    simp only [Datum.order, signed_eq]
    rw [← cmp_vr s t r q, ← e3, ← f3]
    congr 1
    have hg : (0 : Int) < ((2 ^ (min i j + 1074).toNat : Nat) : Int) := by
      have := Nat.two_pow_pos (min i j + 1074).toNat
      omega
    rw [← cmp_mul hg, sg_mul, sg_mul, Nat.mul_assoc, Nat.mul_assoc, ← Nat.pow_add, ← Nat.pow_add]
    congr 4 <;> congr 1 <;> omega
  · obtain ⟨m, i, e1, e2, e3⟩ := read_vr (s := s) h1
    subst h2
    rw [e1, read_wd_inf]
    simp only [Datum.order]
    unfold sg
    cases t
    · rw [cmp_lt' (by cases s <;> simp <;> omega)]; rfl
    · rw [cmp_gt' (by cases s <;> simp <;> omega)]; rfl
  · obtain ⟨m, i, e1, e2, e3⟩ := read_vr (s := t) h2
    subst h1
    rw [e1, read_wd_inf]
    simp only [Datum.order]
    unfold sg
    cases s
    · rw [cmp_gt' (by cases t <;> simp <;> omega)]; rfl
    · rw [cmp_lt' (by cases t <;> simp <;> omega)]; rfl
  · subst h1
    subst h2
    rw [read_wd_inf, read_wd_inf]
    cases s <;> cases t <;> rfl

/-- A float that stands at a place among the plain ones; it is no NaN, and not -0. -/
structure FR (d : Nat) (p : Int) : Prop where
  lt : d < 18446744073709551616
  nz : d ≠ 9223372036854775808
  num : d % 9223372036854775808 ≤ 9218868437227405312
  pos : posF d = p

theorem wd_self {d : Nat} (h : d < 18446744073709551616) : wd (decide (9223372036854775808 ≤ d)) (d % 9223372036854775808) = d := by
  unfold wd
  by_cases hd : 9223372036854775808 ≤ d
  · rw [decide_eq_true hd, if_pos rfl]; omega
  · rw [decide_eq_false hd, if_neg Bool.false_ne_true]; omega

/-- A word's signed rung. -/
def kw (d : Nat) : Int := sg (decide (9223372036854775808 ≤ d)) (d % 9223372036854775808)

theorem order_kw {d f : Nat} {p q : Int} (hd : FR d p) (hf : FR f q) : double.order d f = some (compare (kw d) (kw f)) := by
  have := order_wd (s := decide (9223372036854775808 ≤ d)) (t := decide (9223372036854775808 ≤ f)) hd.num hf.num
  rwa [wd_self hd.lt, wd_self hf.lt] at this

theorem posF_kw (d : Nat) : posF d = if kw d = 0 then 0 else sgI (decide (kw d < 0)) (clampR (kw d).natAbs) := by
  unfold posF kw sg
  by_cases h0 : d % 9223372036854775808 = 0
  · rw [if_pos h0, h0]; split <;> simp
  · rw [if_neg h0]
    by_cases hd : 9223372036854775808 ≤ d
    · rw [decide_eq_true hd, if_pos rfl, if_neg (by omega), decide_eq_true (by omega)]
      congr 2; omega
    · rw [decide_eq_false hd, if_neg Bool.false_ne_true, if_neg (by omega), decide_eq_false (by omega)]
      congr 2

theorem pos_mono_kw {x y : Int} (h : x ≤ y) : (if x = 0 then 0 else sgI (decide (x < 0)) (clampR x.natAbs)) ≤ (if y = 0 then 0 else sgI (decide (y < 0)) (clampR y.natAbs)) := by
  have c1 := clampR_bounds (x.natAbs : Int)
  have c2 := clampR_bounds (y.natAbs : Int)
  rcases (show x < 0 ∨ x = 0 ∨ 0 < x by omega) with hx | hx | hx
  · rw [if_neg (by omega), decide_eq_true hx]
    rcases (show y < 0 ∨ y = 0 ∨ 0 < y by omega) with hy | hy | hy
    · rw [if_neg (by omega), decide_eq_true hy]
      have := clampR_mono (r := (y.natAbs : Int)) (t := (x.natAbs : Int)) (by omega)
      unfold sgI
      rw [if_pos rfl, if_pos rfl]; omega
    · rw [if_pos hy]; unfold sgI; rw [if_pos rfl]; omega
    · rw [if_neg (by omega), decide_eq_false (by omega)]; unfold sgI; rw [if_pos rfl, if_neg Bool.false_ne_true]; omega
  · rw [if_pos hx]
    rcases (show y = 0 ∨ 0 < y by omega) with hy | hy
    · rw [if_pos hy]; exact Int.le_refl _
    · rw [if_neg (by omega), decide_eq_false (by omega)]; unfold sgI; rw [if_neg Bool.false_ne_true]; omega
  · rw [if_neg (by omega), if_neg (by omega), decide_eq_false (by omega), decide_eq_false (by omega)]
    unfold sgI
    rw [if_neg Bool.false_ne_true, if_neg Bool.false_ne_true]
    exact clampR_mono (by omega)

/-- The lower, the greater one of two floats. -/
def fmin (x y : Nat) : Nat := if kw x < kw y then x else y
def fmax (x y : Nat) : Nat := if kw x < kw y then y else x

theorem FR.mn {d f : Nat} {p q : Int} (hd : FR d p) (hf : FR f q) : FR (fmin d f) (min p q) := by
  have h1 := posF_kw d
  have h2 := posF_kw f
  rw [hd.pos] at h1
  rw [hf.pos] at h2
  unfold fmin
  by_cases h : kw d < kw f
  · have := pos_mono_kw (x := kw d) (y := kw f) (by omega)
    rw [if_pos h, show min p q = p by omega]; exact hd
  · have := pos_mono_kw (x := kw f) (y := kw d) (by omega)
    rw [if_neg h, show min p q = q by omega]; exact hf

theorem FR.mx {d f : Nat} {p q : Int} (hd : FR d p) (hf : FR f q) : FR (fmax d f) (max p q) := by
  have h1 := posF_kw d
  have h2 := posF_kw f
  rw [hd.pos] at h1
  rw [hf.pos] at h2
  unfold fmax
  by_cases h : kw d < kw f
  · have := pos_mono_kw (x := kw d) (y := kw f) (by omega)
    rw [if_pos h, show max p q = q by omega]; exact hf
  · have := pos_mono_kw (x := kw f) (y := kw d) (by omega)
    rw [if_neg h, show max p q = p by omega]; exact hd

theorem kw_inj {d f : Nat} {p q : Int} (hd : FR d p) (hf : FR f q) (h : kw d = kw f) : d = f := by
  have a1 := hd.lt
  have a2 := hd.nz
  have b1 := hf.lt
  have b2 := hf.nz
  unfold kw sg at h
  by_cases x : 9223372036854775808 ≤ d <;> by_cases y : 9223372036854775808 ≤ f
  · rw [decide_eq_true x, decide_eq_true y, if_pos rfl, if_pos rfl] at h; omega
  · rw [decide_eq_true x, decide_eq_false y, if_pos rfl, if_neg Bool.false_ne_true] at h; omega
  · rw [decide_eq_false x, decide_eq_true y, if_pos rfl, if_neg Bool.false_ne_true] at h; omega
  · rw [decide_eq_false x, decide_eq_false y, if_neg Bool.false_ne_true, if_neg Bool.false_ne_true] at h; omega

theorem run_min_float {P : Program} (w : World) (ts : Array TypeId) (t : TypeId) {x y : Nat} {p q : Int} (hx : FR x p) (hy : FR y q) : (Builtin.min_ ts t #[.float .f64 x, .float .f64 y]).run P w = .ok (.float .f64 (fmin x y)) w := by
  have ho : FloatKind.f64.format.order x y = some (compare (kw x) (kw y)) := order_kw hx hy
  rcases (show kw x < kw y ∨ kw x = kw y ∨ kw y < kw x by omega) with h | h | h
  · rw [cmp_lt' h] at ho
    simp [Builtin.min_, Builtin.min2, ho, fmin, h]
  · rw [cmp_eq' h] at ho
    have := kw_inj hx hy h
    subst this
    simp [Builtin.min_, Builtin.min2, ho, fmin]
  · rw [cmp_gt' h] at ho
    have : ¬ kw x < kw y := by omega
    simp [Builtin.min_, Builtin.min2, ho, fmin, this]

theorem run_max_float {P : Program} (w : World) (ts : Array TypeId) (t : TypeId) {x y : Nat} {p q : Int} (hx : FR x p) (hy : FR y q) : (Builtin.max_ ts t #[.float .f64 x, .float .f64 y]).run P w = .ok (.float .f64 (fmax x y)) w := by
  have ho : FloatKind.f64.format.order x y = some (compare (kw x) (kw y)) := order_kw hx hy
  rcases (show kw x < kw y ∨ kw x = kw y ∨ kw y < kw x by omega) with h | h | h
  · rw [cmp_lt' h] at ho
    simp [Builtin.max_, Builtin.max2, ho, fmax, h]
  · rw [cmp_eq' h] at ho
    have := kw_inj hx hy h
    subst this
    simp [Builtin.max_, Builtin.max2, ho, fmax]
  · rw [cmp_gt' h] at ho
    have : ¬ kw x < kw y := by omega
    simp [Builtin.max_, Builtin.max2, ho, fmax, this]

/-- The places of the three kinds of amounts. -/
theorem posF_cases (d : Nat) (h0 : d % 9223372036854775808 ≠ 0) : posF d = if 9223372036854775808 ≤ d then -clampR ((d % 9223372036854775808 : Nat) : Int) else clampR ((d % 9223372036854775808 : Nat) : Int) := by
  unfold posF sgI
  rw [if_neg h0]
  by_cases hd : 9223372036854775808 ≤ d
  · rw [decide_eq_true hd, if_pos rfl, if_pos hd]
  · rw [decide_eq_false hd, if_neg Bool.false_ne_true, if_neg hd]

theorem posF_abs (d : Nat) (h0 : d % 9223372036854775808 ≠ 0) : ((posF d).natAbs : Int) = clampR ((d % 9223372036854775808 : Nat) : Int) := by
  have := clampR_bounds ((d % 9223372036854775808 : Nat) : Int)
  rw [posF_cases d h0]
  split <;> omega

theorem clampR_cases (r : Int) : (r < 553942754166571008 ∧ clampR r = 553942754166571007) ∨ (8660422083433463808 < r ∧ clampR r = 8660422083433463809) ∨ (553942754166571008 ≤ r ∧ r ≤ 8660422083433463808 ∧ clampR r = r) := by
  unfold clampR
  by_cases h1 : r < 553942754166571008
  · left; exact ⟨h1, if_pos h1⟩
  · right
    by_cases h2 : 8660422083433463808 < r
    · left; exact ⟨h2, by rw [if_neg h1, if_pos h2]⟩
    · right; exact ⟨by omega, by omega, by rw [if_neg h1, if_neg h2]⟩

/-- A float is plain where its place is. -/
theorem FR.plain {d : Nat} {p : Int} (h : FR d p) : (plainN d).isSome = plP p := by
  have h1 := h.num
  rw [← h.pos]
  by_cases h0 : d % 9223372036854775808 = 0
  · have : posF d = 0 := by unfold posF; rw [if_pos h0]
    rw [this]
    unfold plainN
    rw [if_pos (by omega)]; rfl
  · have ha := posF_abs d h0
    unfold plainN plP
    rw [if_neg (by omega)]
    rcases clampR_cases ((d % 9223372036854775808 : Nat) : Int) with ⟨c1, c2⟩ | ⟨c1, c2⟩ | ⟨c1, c3, c2⟩
    · rw [if_pos (by omega), decide_eq_false (by omega)]; rfl
    · rw [if_pos (by omega), decide_eq_false (by omega)]; rfl
    · rw [if_neg (by omega)]
      rw [show decide (posF d = 0 ∨ 553942754166571008 ≤ (posF d).natAbs ∧ (posF d).natAbs ≤ 8660422083433463808) = true from decide_eq_true (by omega)]; rfl

/-- The word of a plain place. -/
theorem FR.word {d : Nat} {p : Int} (h : FR d p) (hp : plP p = true) : d = wdP p := by
  have h1 := h.num
  have h2 := h.lt
  have h3 := h.nz
  rw [← h.pos] at hp ⊢
  by_cases h0 : d % 9223372036854775808 = 0
  · have : posF d = 0 := by unfold posF; rw [if_pos h0]
    rw [this]
    show d = 0
    omega
  · have ha := posF_abs d h0
    have hc := posF_cases d h0
    unfold plP at hp
    rw [decide_eq_true_eq] at hp
    unfold wdP wd
    rcases clampR_cases ((d % 9223372036854775808 : Nat) : Int) with ⟨c1, c2⟩ | ⟨c1, c2⟩ | ⟨c1, c3, c2⟩
    · omega
    · omega
    · by_cases hd : 9223372036854775808 ≤ d
      · rw [if_pos hd] at hc
        rw [decide_eq_true (by omega), if_pos rfl]; omega
      · rw [if_neg hd] at hc
        rw [decide_eq_false (by omega), if_neg Bool.false_ne_true]; omega

/-- A plain float's number stands where the float does. -/
theorem posV_plain {b : Nat} {x : Bool × Nat × Int} (hb : b < 18446744073709551616) (h : plainN b = some x) (way : Int) : posV x way = posF b := by
  unfold plainN at h
  split at h
  · rename_i h0
    cases h
    unfold posV posF
    rw [if_pos rfl, if_pos (by omega)]
  · rename_i h0
    split at h
    · cases h
    · rename_i h1
      cases h
      have hm : b % 9223372036854775808 ≠ 0 := by omega
      unfold posV
      simp only
      rw [if_neg (by omega), posF_cases b hm]
      have hbl : bl (b % 4503599627370496 + 4503599627370496) = 53 := bl53 (by omega) (by omega)
      have hr : endR (decide (b / 9223372036854775808 = 1)) (b % 4503599627370496 + 4503599627370496) (((b / 4503599627370496 % 2048 : Nat) : Int) - 1075) way = ((b % 9223372036854775808 : Nat) : Int) := by
        unfold endR rung mf
        rw [inex_small (by omega), hbl, Bool.and_false, if_neg Bool.false_ne_true, if_pos (by omega)]
        simp only [Nat.sub_self, Nat.pow_zero, Nat.mul_one]
        omega
      rw [hr]
      unfold sgI
      by_cases hd : 9223372036854775808 ≤ b
      · rw [decide_eq_true (by omega), if_pos rfl, if_pos hd]
      · rw [decide_eq_false (by omega), if_neg Bool.false_ne_true, if_neg hd]
end Go.Proofs.YtonhpkigoplmaaaGreatDoor
namespace Go.Proofs.YtonhpkigoplmaaaGreatDoor
open Go.RowKit Go.Extern Ieee

/-- A triple stands for z * 2 ^ e. -/
def MeansT (e z : Int) (x : Bool × Nat × Int) : Prop := Means e z x.1 x.2.1 x.2.2

theorem means_self (e z : Int) : MeansT e z (decide (z < 0), z.natAbs, e) := by
  intro c _ _
  unfold sg
  by_cases h : z < 0
  · simp only [decide_eq_true h, if_true]
    rw [Int.natCast_mul, show ((z.natAbs : Nat) : Int) = -z by omega, Int.neg_mul, Int.neg_neg]
  · simp only [decide_eq_false h, Bool.false_eq_true, if_false]
    rw [Int.natCast_mul, show ((z.natAbs : Nat) : Int) = z by omega]

theorem sg_le_cancel {s t : Bool} {n m k : Nat} (hk : 0 < k) (h : sg s (n * k) ≤ sg t (m * k)) : sg s n ≤ sg t m := by
  rw [← sg_mul, ← sg_mul] at h
  exact Int.le_of_mul_le_mul_right h (by omega)

theorem leV_means {e z z' : Int} {x y : Bool × Nat × Int} (hx : MeansT e z x) (hy : MeansT e z' y) (h : z ≤ z') : leV x y := by
  obtain ⟨s, n, p⟩ := x
  obtain ⟨t, m, q⟩ := y
  unfold leV lvA lvB
  simp only
  have a := hx (min e (min p q)) (by simp only; omega) (by omega)
  have b := hy (min e (min p q)) (by simp only; omega) (by omega)
  simp only at a b
  apply sg_le_cancel (k := 2 ^ (min p q - min e (min p q)).toNat) (Nat.two_pow_pos _)
  rw [Nat.mul_assoc, Nat.mul_assoc, ← Nat.pow_add, ← Nat.pow_add]
  rw [show (p - min p q).toNat + (min p q - min e (min p q)).toNat = (p - min e (min p q)).toNat by omega, show (q - min p q).toNat + (min p q - min e (min p q)).toNat = (q - min e (min p q)).toNat by omega, a, b]
  exact Int.mul_le_mul_of_nonneg_right h (Int.natCast_nonneg _)

theorem posV_means {e z : Int} {x : Bool × Nat × Int} (hx : MeansT e z x) (way : Int) (hw : way = -1 ∨ way = 1) : posV x way = posV (decide (z < 0), z.natAbs, e) way := by
  have h1 := posV_mono way hw (leV_means hx (means_self e z) (Int.le_refl _))
  have h2 := posV_mono way hw (leV_means (means_self e z) hx (Int.le_refl _))
  omega

theorem sumN_means {e a b : Int} {x y : Bool × Nat × Int} (hx : MeansT e a x) (hy : MeansT e b y) : MeansT e (a + b) (sumN x.1 x.2.1 x.2.2 y.1 y.2.1 y.2.2) := by
  obtain ⟨s, n, p⟩ := x
  obtain ⟨t, m, q⟩ := y
  simp only
  have key : ∀ c, c ≤ min p q → c ≤ e → (sg s (lvA n p q) + sg t (lvB m p q)) * ((2 ^ (min p q - c).toNat : Nat) : Int) = (a + b) * ((2 ^ (e - c).toNat : Nat) : Int) := by
    intro c h1 h2
    have a' := hx c (by simp only; omega) h2
    have b' := hy c (by simp only; omega) h2
    simp only at a' b'
    rw [Int.add_mul, Int.add_mul, ← a', ← b', sg_mul, sg_mul]
    unfold lvA lvB
    rw [Nat.mul_assoc, Nat.mul_assoc, ← Nat.pow_add, ← Nat.pow_add]
    rw [show (p - min p q).toNat + (min p q - c).toNat = (p - c).toNat by omega, show (q - min p q).toNat + (min p q - c).toNat = (q - c).toNat by omega]
  generalize hA : lvA n p q = A at *
  generalize hB : lvB m p q = B at *
  unfold sumN
  rw [hA, hB]
  by_cases hst : s = t
  · subst hst
    rw [if_pos rfl]
    intro c h1 h2
    rw [← key c h1 h2, ← sg_mul]
    congr 1
    unfold sg
    cases s <;> simp <;> omega
  · rw [if_neg hst]
    have ht : t = !s := by cases s <;> cases t <;> simp_all
    subst ht
    by_cases hAB : A = B
    · rw [if_pos hAB]
      have hz : a + b = 0 := by
        have := key (min (min p q) e) (by omega) (by omega)
        subst hAB
        have e0 : sg s A + sg (!s) A = 0 := by unfold sg; cases s <;> simp <;> omega
        rw [e0, Int.zero_mul] at this
        have hp := Nat.two_pow_pos (e - min (min p q) e).toNat
        rcases Int.mul_eq_zero.1 this.symm with h | h
        · exact h
        · omega
      intro c h1 h2
      rw [hz, Int.zero_mul]
      simp [sg]
    · rw [if_neg hAB]
      by_cases hlt : B < A
      · rw [if_pos hlt]
        intro c h1 h2
        rw [← key c h1 h2, ← sg_mul]
        congr 1
        unfold sg
        cases s <;> simp <;> omega
      · rw [if_neg hlt]
        intro c h1 h2
        rw [← key c h1 h2, ← sg_mul]
        congr 1
        unfold sg
        cases s <;> simp <;> omega

/-- A float at a number's end. -/
theorem FR_end (s : Bool) {n : Nat} {e : Int} (way : Int) (h0 : n ≠ 0) (h1 : 0 < endR s n e way) (h2 : endR s n e way ≤ 9218868437227405312) : FR (wd s (endR s n e way).toNat) (posV (s, n, e) way) := by
  have hp : posV (s, n, e) way = sgI s (clampR (endR s n e way)) := by unfold posV; rw [if_neg h0]
  rw [hp]
  generalize endR s n e way = r at *
  have hm : wd s r.toNat % 9223372036854775808 = r.toNat := by unfold wd; split <;> omega
  refine ⟨wd_lt (by omega), ?_, by omega, ?_⟩
  · intro hc; rw [hc] at hm; omega
  · rw [posF_cases _ (by omega), hm, show ((r.toNat : Nat) : Int) = r by omega]
    unfold sgI wd
    cases s
    · rw [if_neg Bool.false_ne_true, if_neg (by omega), if_neg Bool.false_ne_true]
    · rw [if_pos rfl, if_pos (by omega), if_pos rfl]

theorem FR_zero : FR 0 0 := ⟨by omega, by omega, by omega, rfl⟩

theorem FR_plain {b : Nat} (hb : b < 18446744073709551616) (hz : b ≠ 9223372036854775808) (hp : (plainN b).isSome = true) : FR b (posF b) := by
  refine ⟨hb, hz, ?_, rfl⟩
  apply Decidable.byContradiction
  intro hc
  unfold plainN at hp
  rw [if_neg (by omega), if_pos (by omega)] at hp
  cases hp

theorem rung_bounds {n : Nat} (e : Int) (h0 : n ≠ 0) : (e + bl n + 1022) * 4503599627370496 ≤ rung n e ∧ rung n e < (e + bl n + 1023) * 4503599627370496 := by
  have := mf_bounds (Nat.pos_of_ne_zero h0)
  unfold rung
  omega

theorem endR_bounds (s : Bool) {n : Nat} (e way : Int) : rung n e ≤ endR s n e way ∧ endR s n e way ≤ rung n e + 1 := by
  unfold endR
  split <;> omega

theorem nearI_fd {e z : Int} (h0 : z ≠ 0) (h1 : -1022 ≤ e) (h2 : e + bl z.natAbs ≤ 1021) : fd e (nearI z) = fd e z := by
  have hn : z.natAbs ≠ 0 := by omega
  obtain ⟨f1, f2, f3, f4⟩ := nearM_facts hn
  have habs := nearI_abs z
  have hsgn := nearI_sgn z
  have hlt : decide (nearI z < 0) = decide (z < 0) := by
    apply decide_eq_decide.2
    by_cases h : z < 0
    · have := hsgn.1 h; omega
    · have := hsgn.2 h; omega
  have hN0 : nearI z ≠ 0 := by omega
  rw [fd_wd hN0 ⟨by omega, by rw [habs]; omega⟩, fd_wd h0 ⟨by omega, by omega⟩, habs, hlt, nup_rep f2, f3]
  simp

theorem near_side (z : Int) : (if z - nearI z = 0 then Ordering.eq else if z - nearI z < 0 then .lt else .gt) = side (decide (z < 0)) z.natAbs := by
  obtain ⟨c1, c2, c3, c4, c5⟩ := nearM_cmp z.natAbs
  have hsgn := nearI_sgn z
  unfold side
  by_cases h : z < 0
  · have hs := hsgn.1 h
    rw [decide_eq_true h]
    cases hi : inex z.natAbs
    · have := c1 hi
      rw [if_pos (by omega), if_pos rfl]
    · rw [if_neg (show ¬ true = false by simp)]
      cases hu : nup z.natAbs
      · have := c3 hi hu
        rw [if_neg (by omega), if_pos (by omega)]; rfl
      · have := c2 hi hu
        rw [if_neg (by omega), if_neg (by omega)]; rfl
  · have hs := hsgn.2 h
    rw [decide_eq_false h]
    cases hi : inex z.natAbs
    · have := c1 hi
      rw [if_pos (by omega), if_pos rfl]
    · rw [if_neg (show ¬ true = false by simp)]
      cases hu : nup z.natAbs
      · have := c3 hi hu
        rw [if_neg (by omega), if_neg (by omega)]; rfl
      · have := c2 hi hu
        rw [if_neg (by omega), if_pos (by omega)]; rfl

/-- The ends around z * 2 ^ e. -/
def EndsAt (e z : Int) (d u : Nat) : Prop := FR d (posV (decide (z < 0), z.natAbs, e) (-1)) ∧ FR u (posV (decide (z < 0), z.natAbs, e) 1)

theorem fits8 {e z : Int} {M : Nat} (he1 : -1022 ≤ e) (he2 : e + M ≤ 1010) (h : z.natAbs < 8 * 2 ^ M) : Fits e z ∧ e + bl z.natAbs ≤ 1020 := by
  have : bl z.natAbs ≤ M + 3 := bl_le (by rw [Nat.pow_add]; omega)
  exact ⟨⟨he1, by omega⟩, by omega⟩

theorem near_bound {z : Int} {M : Nat} {k : Nat} (h : z.natAbs ≤ 2 ^ k * 2 ^ M) : (nearI z).natAbs ≤ 2 ^ k * 2 ^ M := by
  have hp : Pw ((2 ^ k * 2 ^ M : Nat) : Int) := ⟨k + M, by rw [Nat.pow_add]⟩
  have r : Rep ((2 ^ k * 2 ^ M : Nat) : Int) := rep_pw hp (Int.dvd_refl _) (by omega)
  have h1 := near_le (z := z) r (by omega)
  have h2 := near_ge (z := z) (rep_neg r) (by omega)
  omega

/-- A call that hands back two ends. -/
def Gives (f : Nat) (args : Array Value) (d u : Nat) : Prop := ∀ w : World, Calls Tryz.prog f args w fun ev w' => ev = .returned (.agg #[.float .f64 d, .float .f64 u]) ∧ Below w.heap.size w w'

/-- The ends, by the nearest float and the remainder. -/
theorem around_ends {e z : Int} {M : Nat} (he1 : -1022 ≤ e) (he2 : e + M ≤ 1010) (hz : z.natAbs < 2 * 2 ^ M) (hr : (z - nearI z).natAbs < 8 * 2 ^ M) :
    ∃ d u, EndsAt e z d u ∧ Gives 141 #[.float .f64 (fd e z), .float .f64 (fd e (z - nearI z))] d u := by
  by_cases h0 : z = 0
  · subst h0
    rw [nearI_zero, Int.sub_self, fd_zero]
    exact ⟨0, 0, ⟨FR_zero, FR_zero⟩, fun w => aroundF_eq 0 0 w rfl⟩
  · obtain ⟨hF, hF2⟩ := fits8 he1 he2 hr
    have hq := ord_fd hF (by omega)
    rw [near_side] at hq
    have hbl : bl z.natAbs ≤ M + 1 := bl_le (by rw [Nat.pow_succ]; omega)
    have hbp := bl_pos (n := z.natAbs) (by omega)
    have hn : z.natAbs ≠ 0 := by omega
    have rb := rung_bounds e hn
    have e1 := endR_bounds (decide (z < 0)) (n := z.natAbs) e (-1)
    have e2 := endR_bounds (decide (z < 0)) (n := z.natAbs) e 1
    exact ⟨_, _, ⟨FR_end _ (-1) hn (by omega) (by omega), FR_end _ 1 hn (by omega) (by omega)⟩, fun w => around_round (decide (z < 0)) z.natAbs e _ w hn (by omega) (by omega) hq⟩

theorem sumG_any {e a b : Int} {M : Nat} (he1 : -1022 ≤ e) (he2 : e + M ≤ 1010) (ha : a.natAbs < 2 ^ M) (hb : b.natAbs < 2 ^ M) (ra : Rep a) (rb : Rep b) (ok : TwoOk a b) :
    ∃ d u, EndsAt e (a + b) d u ∧ Gives 89 #[.float .f64 (fd e a), .float .f64 (fd e b)] d u := by
  unfold TwoOk at ok
  have hN := near_bound (z := a + b) (M := M) (k := 1) (by omega)
  have hV := near_bound (z := nearI (a + b) - a) (M := M) (k := 2) (by omega)
  have rN := nearI_rep (a + b)
  have rV := nearI_rep (nearI (a + b) - a)
  have key : ∀ z : Int, z.natAbs < 8 * 2 ^ M → Fits e z := fun z h => (fits8 he1 he2 h).1
  have fdn : ∀ z : Int, z.natAbs < 8 * 2 ^ M → fd e (nearI z) = fd e z := by
    intro z h
    by_cases h0 : z = 0
    · subst h0; rfl
    · exact nearI_fd h0 he1 (by have := (fits8 he1 he2 h).2; omega)
  obtain ⟨d, u, hE, hA⟩ := around_ends (e := e) (z := a + b) (M := M) he1 he2 (by omega) (by omega)
  have nN := fdn (a + b) (by omega)
  have nV := fdn (nearI (a + b) - a) (by omega)
  generalize nearI (a + b) = N at *
  generalize nearI (N - a) = V at *
  generalize 2 ^ M = g at *
  obtain ⟨o1, o2, o3, o4⟩ := ok
  have h1 := add_fd (key a (by omega)) (key b (by omega)) ra rb (key (a + b) (by omega))
  rw [← nN] at h1
  have h2 := sub_fd (key N (by omega)) (key a (by omega)) rN ra (key (N - a) (by omega))
  rw [← nV] at h2
  have h3 := sub_fd (key N (by omega)) (key V (by omega)) rN rV (key (N - V) (by omega))
  have h4 := sub_fd (key a (by omega)) (key (N - V) (by omega)) ra o1 (key (a - (N - V)) (by omega))
  have h5 := sub_fd (key b (by omega)) (key V (by omega)) rb rV (key (b - V) (by omega))
  have h6 := add_fd (key (a - (N - V)) (by omega)) (key (b - V) (by omega)) o2 o3 (key _ (by omega))
  rw [show a - (N - V) + (b - V) = a + b - N by omega] at h6
  rw [← nN] at hA
  exact ⟨d, u, hE, fun w => sumF_any _ _ _ _ _ _ _ _ _ _ w h1 h2 h3 h4 h5 h6 hA⟩

theorem means_zero (e : Int) (s : Bool) (p : Int) : Means e 0 s 0 p := by
  intro c _ _
  rw [Nat.zero_mul, Int.zero_mul]
  cases s <;> rfl

/-- -0 as the second one. -/
theorem sumG_minus {e a : Int} {M : Nat} (he1 : -1022 ≤ e) (he2 : e + M ≤ 1010) (ha : a.natAbs < 2 ^ M) (ra : Rep a) :
    ∃ d u, EndsAt e a d u ∧ Gives 89 #[.float .f64 (fd e a), .float .f64 9223372036854775808] d u := by
  have key : ∀ z : Int, z.natAbs < 8 * 2 ^ M → Fits e z := fun z h => (fits8 he1 he2 h).1
  obtain ⟨d, u, hE, hA⟩ := around_ends (e := e) (z := a) (M := M) he1 he2 (by omega) (by rw [near_rep ra]; omega)
  rw [near_rep ra, Int.sub_self, fd_zero] at hA
  have h1 : double.add (fd e a) 9223372036854775808 = some (fd e a) := by
    obtain ⟨s, m, p, h1, h2, h3, h4⟩ := read_fd (key a (by omega)) ra
    have hz : double.read 9223372036854775808 = .number true 0 (-1074) := rfl
    unfold Format.add
    rw [h1, hz]
    have := sum_means h2 (means_zero e true (-1074)) (by rw [Int.add_zero]; exact key a (by omega)) (fun h => by rw [h3 (by omega)]; rfl)
    rwa [Int.add_zero] at this
  have h2 := sub_fd (key a (by omega)) (key a (by omega)) ra ra (by rw [Int.sub_self]; exact key 0 (by omega))
  rw [Int.sub_self, fd_zero] at h2
  have h3 := sub_fd (key a (by omega)) (key 0 (by omega)) ra rep_zero (by rw [Int.sub_zero]; exact key a (by omega))
  rw [Int.sub_zero, fd_zero] at h3
  have h5 : double.sub 9223372036854775808 0 = some 9223372036854775808 := rfl
  have h6 : double.add 0 9223372036854775808 = some 0 := rfl
  exact ⟨d, u, hE, fun w => sumF_any _ _ _ _ _ _ _ _ _ _ w h1 h2 h3 h2 h5 h6 hA⟩
end Go.Proofs.YtonhpkigoplmaaaGreatDoor
