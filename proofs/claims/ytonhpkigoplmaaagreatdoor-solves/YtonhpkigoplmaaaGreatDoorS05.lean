/-
  TwoM, TwoS, PosM, SolM, SolI.
-/
import Derived.Test.YtonhpkigoplmaaaGreatDoorS04
namespace Go.Proofs.YtonhpkigoplmaaaGreatDoor
open Go.RowKit Go.Extern Ieee

/-- A power of two. -/
def Pw (h : Int) : Prop := ∃ k : Nat, h = ((2 ^ k : Nat) : Int)

theorem Pw.pos {h : Int} (p : Pw h) : 0 < h := by
  obtain ⟨k, rfl⟩ := p
  exact_mod_cast Nat.two_pow_pos k

theorem Pw.dvd {g h : Int} (pg : Pw g) (ph : Pw h) (hle : g ≤ h) : g ∣ h := by
  obtain ⟨k, rfl⟩ := pg
  obtain ⟨l, rfl⟩ := ph
  have : (2 : Nat) ^ k ≤ 2 ^ l := by exact_mod_cast hle
  have hkl : k ≤ l := (Nat.pow_le_pow_iff_right (by decide)).1 this
  exact Int.natCast_dvd_natCast.2 (Nat.pow_dvd_pow 2 hkl)

theorem Pw.two {h : Int} (p : Pw h) : Pw (2 * h) := by
  obtain ⟨k, rfl⟩ := p
  exact ⟨k + 1, by rw [Nat.pow_succ, Int.natCast_mul, Int.mul_comm]; rfl⟩

theorem bl_gt {n k : Nat} (h : 2 ^ k ≤ n) : k < bl n := by
  have h0 : 0 < n := Nat.lt_of_lt_of_le (Nat.two_pow_pos k) h
  have := (bl_bounds h0).2.1
  exact (Nat.pow_lt_pow_iff_right (by decide)).1 (Nat.lt_of_le_of_lt h this)

theorem inex_full {m : Nat} (h : m ≤ 9007199254740992) : inex m = false := by
  by_cases h2 : m = 9007199254740992
  · subst h2; unfold inex; rw [bl54]; rfl
  · exact inex_small (bl_le (by rw [p53]; omega))

theorem rep_pw {x h : Int} (p : Pw h) (hd : h ∣ x) (hb : x.natAbs ≤ 9007199254740992 * h) : Rep x := by
  obtain ⟨k, rfl⟩ := p
  obtain ⟨m, rfl⟩ := hd
  have hp := Nat.two_pow_pos k
  have hm : m.natAbs ≤ 9007199254740992 := by
    rw [Int.natAbs_mul, Int.natAbs_natCast] at hb
    have : 2 ^ k * m.natAbs ≤ 2 ^ k * 9007199254740992 := by
      have h2 : ((2 ^ k * m.natAbs : Nat) : Int) ≤ ((2 ^ k * 9007199254740992 : Nat) : Int) := by
        rw [Int.natCast_mul (2 ^ k) 9007199254740992, Int.mul_comm]
        exact hb
      exact_mod_cast h2
    exact Nat.le_of_mul_le_mul_left this hp
  show inex _ = false
  rw [Int.natAbs_mul, Int.natAbs_natCast, Nat.mul_comm]
  by_cases h0 : m.natAbs = 0
  · rw [h0, Nat.zero_mul]; rfl
  · exact inex_shift h0 _ (inex_full hm)

theorem rep_zero : Rep 0 := rfl

theorem rep_neg {z : Int} (h : Rep z) : Rep (-z) := by
  show inex _ = false
  rw [Int.natAbs_neg]; exact h

theorem inex_mod {n : Nat} (h : inex n = false) : n % 2 ^ (bl n - 53) = 0 := by
  unfold inex at h
  rw [decide_eq_false_iff_not] at h
  by_cases hb : 53 < bl n
  · apply Decidable.byContradiction
    intro hc
    exact h ⟨hb, hc⟩
  · rw [show bl n - 53 = 0 by omega, Nat.pow_zero, Nat.mod_one]

theorem rep_dvd {z h : Int} (p : Pw h) (hr : Rep z) (hb : 4503599627370496 * h ≤ z.natAbs) : h ∣ z := by
  obtain ⟨k, rfl⟩ := p
  have hm := inex_mod hr
  have hb' : 2 ^ (52 + k) ≤ z.natAbs := by
    rw [Nat.pow_add, p52]
    generalize 2 ^ k = g at *
    omega
  have hk : 52 + k < bl z.natAbs := bl_gt hb'
  have : 2 ^ k ∣ z.natAbs := Nat.dvd_trans (Nat.pow_dvd_pow 2 (by omega)) (Nat.dvd_of_mod_eq_zero hm)
  exact Int.ofNat_dvd_left.2 this

theorem dvd_gap {h x y : Int} (hp : 0 < h) (hx : h ∣ x) (hy : h ∣ y) (hlt : x < y) : x + h ≤ y := by
  obtain ⟨a, rfl⟩ := hx
  obtain ⟨b, rfl⟩ := hy
  have : a < b := Int.lt_of_mul_lt_mul_left hlt (Int.le_of_lt hp)
  have : h * (a + 1) ≤ h * b := Int.mul_le_mul_of_nonneg_left (by omega) (Int.le_of_lt hp)
  rw [Int.mul_add, Int.mul_one] at this
  exact this

/-- The nearest float is not farther than another one. -/
theorem nearM_best (n w : Nat) (hw : inex w = false) : ((n : Int) - nearM n).natAbs ≤ ((n : Int) - w).natAbs := by
  by_cases hb : bl n ≤ 53
  · unfold nearM; rw [if_pos hb]; omega
  · have hn0 : 0 < n := by
      rcases Nat.eq_zero_or_pos n with h | h
      · subst h; exact absurd (show bl 0 ≤ 53 by decide) hb
      · exact h
    have hpw : Pw ((2 ^ (bl n - 53) : Nat) : Int) := ⟨_, rfl⟩
    have hmf : mf n = n / 2 ^ (bl n - 53) := by unfold mf; rw [if_neg hb]
    obtain ⟨m1, m2⟩ := mf_bounds hn0
    have hd := Nat.div_add_mod n (2 ^ (bl n - 53))
    have hl := Nat.mod_lt n (Nat.two_pow_pos (bl n - 53))
    have hN : nearM n = (mf n + if nup n then 1 else 0) * 2 ^ (bl n - 53) := by unfold nearM; rw [if_neg hb]
    have hu : nup n = (decide (2 ^ (bl n - 53) < 2 * (n % 2 ^ (bl n - 53))) || (2 ^ (bl n - 53) == 2 * (n % 2 ^ (bl n - 53)) && (n / 2 ^ (bl n - 53)) % 2 == 1)) := by
      unfold nup; rw [decide_eq_true (show 53 < bl n by omega), Bool.true_and]
    have hwr : Rep (w : Int) := by show inex _ = false; rw [Int.natAbs_natCast]; exact hw
    rw [← hmf] at hd hu
    rw [hN]
    have hrw := rep_dvd (z := (w : Int)) hpw hwr
    rw [Int.natAbs_natCast] at hrw
    generalize hg : 2 ^ (bl n - 53) = g at *
    have hgp : 0 < g := by rw [← hg]; exact Nat.two_pow_pos _
    generalize n % g = r at *
    generalize mf n = q at *
    have hw2 : (w : Int) ≤ g * q ∨ (g : Int) * q + g ≤ w := by
      by_cases hs : 4503599627370496 * (g : Int) ≤ (w : Int)
      · have hdv := hrw hs
        by_cases hlt : (g : Int) * q < w
        · right
          exact dvd_gap (by omega) ⟨_, rfl⟩ hdv hlt
        · left; omega
      · left
        have : (g : Int) * 4503599627370496 ≤ g * q := Int.mul_le_mul_of_nonneg_left (by omega) (by omega)
        omega
    have hd' : (g : Int) * q + r = n := by exact_mod_cast hd
    have hNe : (((q + if nup n = true then 1 else 0) * g : Nat) : Int) = (g : Int) * q + (if nup n = true then (g : Int) else 0) := by
      cases nup n
      · simp only [Bool.false_eq_true, if_false, Nat.add_zero, Int.natCast_mul, Int.add_zero]; exact Int.mul_comm _ _
      · simp only [if_true, Int.natCast_mul, Int.natCast_add, Int.add_mul]
        rw [Int.mul_comm (q : Int)]; simp
    rw [hNe]
    generalize (g : Int) * q = Q at *
    have hcase : (nup n = true → g ≤ 2 * r) ∧ (nup n = false → 2 * r ≤ g) := by
      rw [hu]
      constructor
      · intro h
        rw [Bool.or_eq_true] at h
        rcases h with h | h
        · rw [decide_eq_true_eq] at h; omega
        · rw [Bool.and_eq_true, beq_iff_eq] at h; omega
      · intro h
        rw [Bool.or_eq_false_iff] at h
        have := h.1
        rw [decide_eq_false_iff_not] at this; omega
    cases hnu : nup n
    · have := hcase.2 hnu
      simp only [Bool.false_eq_true, if_false]
      omega
    · have := hcase.1 hnu
      simp only [if_true]
      omega

theorem nearI_abs (z : Int) : (nearI z).natAbs = nearM z.natAbs := by unfold nearI; exact (sg_natAbs rfl).symm

theorem nearI_sgn (z : Int) : (z < 0 → nearI z = -(nearM z.natAbs : Int)) ∧ (¬ z < 0 → nearI z = (nearM z.natAbs : Int)) := by
  unfold nearI sg
  constructor
  · intro h; rw [decide_eq_true h, if_pos rfl]
  · intro h; rw [decide_eq_false h, if_neg Bool.false_ne_true]

theorem nearI_zero : nearI 0 = 0 := rfl

theorem nearI_rep (z : Int) : Rep (nearI z) := by
  show inex _ = false
  rw [nearI_abs]
  by_cases h : z.natAbs = 0
  · rw [h]; rfl
  · exact (nearM_facts h).2.1

theorem near_best (z w : Int) (hw : Rep w) : (z - nearI z).natAbs ≤ (z - w).natAbs := by
  have h1 := nearM_best z.natAbs w.natAbs hw
  have h0 := nearM_best z.natAbs 0 rfl
  by_cases hz : z < 0
  · have := (nearI_sgn z).1 hz
    omega
  · have := (nearI_sgn z).2 hz
    omega

theorem near_rep {z : Int} (h : Rep z) : nearI z = z := by
  have := near_best z z h
  omega

theorem near_le {z w : Int} (hw : Rep w) (h : z ≤ w) : nearI z ≤ w := by
  have := near_best z w hw
  omega

theorem near_ge {z w : Int} (hw : Rep w) (h : w ≤ z) : w ≤ nearI z := by
  have := near_best z w hw
  omega

theorem near_half {z g : Int} (p : Pw g) (h : z.natAbs ≤ 9007199254740992 * g) : 2 * ((z - nearI z).natAbs : Int) ≤ g := by
  have gp := p.pos
  have hd := Int.mul_ediv_add_emod z g
  have m1 := Int.emod_nonneg z (Int.ne_of_gt gp)
  have m2 := Int.emod_lt_of_pos z gp
  have d1 : g ∣ g * (z / g) := ⟨_, rfl⟩
  have d2 : g ∣ g * (z / g) + g := Int.dvd_add d1 (Int.dvd_refl g)
  have d3 : g ∣ 9007199254740992 * g := ⟨9007199254740992, Int.mul_comm _ _⟩
  have d4 : g ∣ -(9007199254740992 * g) := Int.dvd_neg.2 d3
  generalize g * (z / g) = f at *
  generalize z % g = r at *
  have b1 : -(9007199254740992 * g) ≤ f := by
    rcases (show -(9007199254740992 * g) ≤ f ∨ f < -(9007199254740992 * g) by omega) with h' | h'
    · exact h'
    · have := dvd_gap gp d1 d4 h'; omega
  by_cases hr : 2 * r ≤ g
  · have := near_best z f (rep_pw p d1 (by omega))
    omega
  · have : f + g ≤ 9007199254740992 * g := by
      rcases (show f + g ≤ 9007199254740992 * g ∨ 9007199254740992 * g < f + g by omega) with h' | h'
      · exact h'
      · have := dvd_gap gp d3 d2 h'; omega
    have := near_best z (f + g) (rep_pw p d2 (by omega))
    omega

theorem near_dvd {z g : Int} (p : Pw g) (h : g ∣ z) : g ∣ nearI z := by
  by_cases hs : (z.natAbs : Int) ≤ 9007199254740992 * g
  · rw [near_rep (rep_pw p h hs)]; exact h
  · have gp := p.pos
    have d3 : g ∣ 9007199254740992 * g := ⟨9007199254740992, Int.mul_comm _ _⟩
    have r3 : Rep (9007199254740992 * g) := rep_pw p d3 (by omega)
    by_cases hz : z < 0
    · have := near_le (z := z) (rep_neg r3) (by omega)
      exact rep_dvd p (nearI_rep z) (by omega)
    · have := near_ge (z := z) r3 (by omega)
      exact rep_dvd p (nearI_rep z) (by omega)

/-- Half the last place of a float. -/
theorem rep_ulp {z : Int} (hr : Rep z) (h : 9007199254740992 ≤ z.natAbs) : ∃ u, Pw u ∧ 2 * u ∣ z ∧ 9007199254740992 * u ≤ z.natAbs ∧ (z.natAbs : Int) < 18014398509481984 * u := by
  have h0 : 0 < z.natAbs := by omega
  obtain ⟨b1, b2, b3⟩ := bl_bounds h0
  have hk : 53 < bl z.natAbs := bl_gt (by rw [p53]; exact h)
  have e2 : ((2 ^ (bl z.natAbs - 54) * 2 : Nat) : Int) = 2 * ((2 ^ (bl z.natAbs - 54) : Nat) : Int) := by rw [Int.natCast_mul, Int.mul_comm]; rfl
  refine ⟨((2 ^ (bl z.natAbs - 54) : Nat) : Int), ⟨_, rfl⟩, ?_, ?_, ?_⟩
  · rw [← e2, ← Nat.pow_succ, show (bl z.natAbs - 54).succ = bl z.natAbs - 53 by omega]
    exact Int.ofNat_dvd_left.2 (Nat.dvd_of_mod_eq_zero (inex_mod hr))
  · have : 9007199254740992 * 2 ^ (bl z.natAbs - 54) ≤ z.natAbs := by
      rw [← p53, ← Nat.pow_add, show 53 + (bl z.natAbs - 54) = bl z.natAbs - 1 by omega]; exact b1
    generalize 2 ^ (bl z.natAbs - 54) = g at *
    omega
  · have : z.natAbs < 18014398509481984 * 2 ^ (bl z.natAbs - 54) := by
      have p54 : (18014398509481984 : Nat) = 2 ^ 54 := by decide
      rw [p54, ← Nat.pow_add, show 54 + (bl z.natAbs - 54) = bl z.natAbs by omega]; exact b2
    generalize 2 ^ (bl z.natAbs - 54) = g at *
    omega
end Go.Proofs.YtonhpkigoplmaaaGreatDoor
namespace Go.Proofs.YtonhpkigoplmaaaGreatDoor
open Go.RowKit Go.Extern Ieee

/-- What the six sums need. -/
def TwoOk (a b : Int) : Prop := Rep (nearI (a + b) - nearI (nearI (a + b) - a)) ∧ Rep (a - (nearI (a + b) - nearI (nearI (a + b) - a))) ∧ Rep (b - nearI (nearI (a + b) - a)) ∧ Rep (a + b - nearI (a + b))

theorem twoOk_of {a b N V : Int} (hN : nearI (a + b) = N) (hV : nearI (N - a) = V) (h1 : Rep (N - V)) (h2 : Rep (a - (N - V))) (h3 : Rep (b - V)) (h4 : Rep (a + b - N)) : TwoOk a b := by
  unfold TwoOk
  rw [hN, hV]
  exact ⟨h1, h2, h3, h4⟩

theorem near_neg (z : Int) : nearI (-z) = -nearI z := by
  by_cases h0 : z = 0
  · subst h0; rfl
  · by_cases hz : z < 0
    · have h1 := (nearI_sgn z).1 hz
      have h2 := (nearI_sgn (-z)).2 (by omega)
      rw [Int.natAbs_neg] at h2
      omega
    · have h1 := (nearI_sgn z).2 hz
      have h2 := (nearI_sgn (-z)).1 (by omega)
      rw [Int.natAbs_neg] at h2
      omega

theorem TwoOk.neg {a b : Int} (h : TwoOk (-a) (-b)) : TwoOk a b := by
  unfold TwoOk at *
  rw [show -a + -b = -(a + b) by omega, near_neg] at h
  rw [show -nearI (a + b) - -a = -(nearI (a + b) - a) by omega, near_neg] at h
  generalize nearI (a + b) = N at *
  generalize nearI (N - a) = V at *
  obtain ⟨h1, h2, h3, h4⟩ := h
  refine ⟨?_, ?_, ?_, ?_⟩
  · have := rep_neg h1; rwa [show -(-N - -V) = N - V by omega] at this
  · have := rep_neg h2; rwa [show -(-a - (-N - -V)) = a - (N - V) by omega] at this
  · have := rep_neg h3; rwa [show -(-b - -V) = b - V by omega] at this
  · have := rep_neg h4; rwa [show -(-(a + b) - -N) = a + b - N by omega] at this

/-- The first one is exact. -/
theorem two_exact {a b : Int} (ra : Rep a) (rb : Rep b) (rz : Rep (a + b)) : TwoOk a b := by
  have hN := near_rep rz
  have hV : nearI (a + b - a) = b := by rw [show a + b - a = b by omega]; exact near_rep rb
  refine twoOk_of hN hV ?_ ?_ ?_ ?_
  · rwa [show a + b - b = a by omega]
  · rw [show a - (a + b - b) = 0 by omega]; exact rep_zero
  · rw [Int.sub_self]; exact rep_zero
  · rw [Int.sub_self]; exact rep_zero

/-- The second one is exact too. -/
theorem two_dekker {a b : Int} (ra : Rep a) (rV : Rep (nearI (a + b) - a)) (rz : Rep (a + b - nearI (a + b))) : TwoOk a b := by
  refine twoOk_of rfl (near_rep rV) ?_ ?_ ?_ rz
  · rwa [show nearI (a + b) - (nearI (a + b) - a) = a by omega]
  · rw [show a - (nearI (a + b) - (nearI (a + b) - a)) = 0 by omega]; exact rep_zero
  · rwa [show b - (nearI (a + b) - a) = a + b - nearI (a + b) by omega]

theorem dvd_two {u z : Int} (h : 2 * u ∣ z) : u ∣ z := Int.dvd_trans ⟨2, by omega⟩ h

theorem ulp_dvd {u v z : Int} (pu : Pw u) (pv : Pw v) (hle : u ≤ v) (h : 2 * v ∣ z) : 2 * u ∣ z :=
  Int.dvd_trans (pu.two.dvd pv.two (by omega)) h

theorem two_big {a b u v : Int} (ra : Rep a) (rb : Rep b) (pu : Pw u) (pv : Pw v) (ua : 2 * u ∣ a) (vb : 2 * v ∣ b) (a1 : 9007199254740992 * u ≤ a) (a2 : a < 18014398509481984 * u) (b1 : 9007199254740992 * v ≤ b.natAbs) (b2 : (b.natAbs : Int) < 18014398509481984 * v) (hab : (b.natAbs : Int) ≤ a) : TwoOk a b := by
  have u0 := pu.pos
  have v0 := pv.pos
  have hvu : v ≤ u := by
    rcases (show v ≤ u ∨ u < v by omega) with h | h
    · exact h
    · have := dvd_gap u0 (Int.dvd_refl u) (pu.dvd pv (by omega)) h
      omega
  have va : 2 * v ∣ a := ulp_dvd pv pu hvu ua
  have vz : 2 * v ∣ a + b := Int.dvd_add va vb
  have vN := near_dvd pv.two vz
  have rz : Rep (a + b - nearI (a + b)) := by
    have h1 := near_best (a + b) a ra
    exact rep_pw pv.two (Int.dvd_sub vz vN) (by omega)
  have a3 : a + 2 * u ≤ 18014398509481984 * u := dvd_gap pu.two.pos ua ⟨9007199254740992, by omega⟩ a2
  by_cases hb : 0 ≤ b
  · have hh := near_half (z := a + b) pu.two.two (by omega)
    have hge := near_ge (z := a + b) ra (by omega)
    have uN := rep_dvd (z := nearI (a + b)) pu.two (nearI_rep _) (by omega)
    exact two_dekker ra (rep_pw pu.two (Int.dvd_sub uN ua) (by omega)) rz
  · by_cases hs : a ≤ 2 * (-b)
    · exact two_exact ra rb (rep_pw pv.two vz (by omega))
    · have hh := near_half (z := a + b) pu.two (by omega)
      have r52 : Rep (4503599627370496 * u) := rep_pw pu ⟨4503599627370496, Int.mul_comm _ _⟩ (by omega)
      have hge := near_ge (z := a + b) r52 (by omega)
      have uN := rep_dvd (z := nearI (a + b)) pu (nearI_rep _) (by omega)
      exact two_dekker ra (rep_pw pu (Int.dvd_sub uN (dvd_two ua)) (by omega)) rz

theorem two_small {a b u v : Int} (ra : Rep a) (rb : Rep b) (pu : Pw u) (pv : Pw v) (ub : 2 * u ∣ b) (va : 2 * v ∣ a) (b1 : 9007199254740992 * u ≤ b) (b2 : b < 18014398509481984 * u) (a1 : 9007199254740992 * v ≤ a.natAbs) (a2 : (a.natAbs : Int) < 18014398509481984 * v) (hab : (a.natAbs : Int) < b) : TwoOk a b := by
  have u0 := pu.pos
  have v0 := pv.pos
  have hvu : v ≤ u := by
    rcases (show v ≤ u ∨ u < v by omega) with h | h
    · exact h
    · have := dvd_gap u0 (Int.dvd_refl u) (pu.dvd pv (by omega)) h
      omega
  have vb : 2 * v ∣ b := ulp_dvd pv pu hvu ub
  have vz : 2 * v ∣ a + b := Int.dvd_add va vb
  have b3 : b + 2 * u ≤ 18014398509481984 * u := dvd_gap pu.two.pos ub ⟨9007199254740992, by omega⟩ b2
  by_cases hs : a < 0 ∧ b ≤ 2 * (-a)
  · exact two_exact ra rb (rep_pw pv.two vz (by omega))
  · have hz2 : b ≤ 2 * (a + b) := by omega
    have hh := near_half (z := a + b) pu.two.two (by omega)
    have vN := near_dvd pv.two vz
    have hzb := near_best (a + b) b rb
    have rz : Rep (a + b - nearI (a + b)) := rep_pw pv.two (Int.dvd_sub vz vN) (by omega)
    have rN := nearI_rep (a + b)
    have r52 : Rep (4503599627370496 * u) := rep_pw pu ⟨4503599627370496, Int.mul_comm _ _⟩ (by omega)
    have r53 : Rep (9007199254740992 * u) := rep_pw pu ⟨9007199254740992, Int.mul_comm _ _⟩ (by omega)
    have r54 : Rep (18014398509481984 * u) := rep_pw pu.two ⟨9007199254740992, by omega⟩ (by omega)
    have r53m : Rep (9007199254740990 * u) := rep_pw pu ⟨9007199254740990, Int.mul_comm _ _⟩ (by omega)
    have hge := near_ge (z := a + b) r52 (by omega)
    have uN := rep_dvd pu rN (by omega)
    have hlt54 : nearI (a + b) < 18014398509481984 * u → a + b < 18014398509481984 * u := by
      intro h
      rcases (show a + b < 18014398509481984 * u ∨ 18014398509481984 * u ≤ a + b by omega) with h' | h'
      · exact h'
      · have := near_ge (z := a + b) r54 h'; omega
    have hhs : a + b < 18014398509481984 * u → 2 * ((a + b - nearI (a + b)).natAbs : Int) ≤ 2 * u := by
      intro h
      exact near_half pu.two (by omega)
    generalize hN : nearI (a + b) = N at *
    have hV1 := near_half (z := N - a) pu.two (by omega)
    have hV2 := near_ge (z := N - a) r53m (by omega)
    have rV := nearI_rep (N - a)
    have uV := rep_dvd pu rV (by omega)
    have vt : 2 * v ∣ N - a := Int.dvd_sub vN va
    have vV := near_dvd pv.two vt
    have hVb := near_best (N - a) N rN
    have hV3 : 9007199254740992 * u ≤ N - a → 9007199254740992 * u ≤ nearI (N - a) := fun h => near_ge r53 h
    generalize hV : nearI (N - a) = V at *
    refine twoOk_of hN hV ?_ ?_ ?_ rz
    · by_cases hbig : 18014398509481984 * u ≤ N
      · have u2N := rep_dvd pu.two rN (by omega)
        have ht : 9007199254740992 * u ≤ N - a := by
          rcases (show a ≤ 9007199254740992 * u ∨ 9007199254740992 * u < a by omega) with h | h
          · omega
          · have u2a := rep_dvd pu.two ra (by omega)
            have := dvd_gap pu.two.pos u2a ub (by omega)
            omega
        have := hV3 ht
        have u2V := rep_dvd pu.two rV (by omega)
        exact rep_pw pu.two (Int.dvd_sub u2N u2V) (by omega)
      · have hz54 := hlt54 (by omega)
        have := hhs hz54
        have dNV := Int.dvd_sub uN uV
        have e1 : u ∣ 9007199254740993 * u := ⟨9007199254740993, Int.mul_comm _ _⟩
        have g1 : N - V + u ≤ 9007199254740993 * u := dvd_gap u0 dNV e1 (by omega)
        have g2 : -(9007199254740993 * u) + u ≤ N - V := dvd_gap u0 (Int.dvd_neg.2 e1) dNV (by omega)
        exact rep_pw pu dNV (by omega)
    · rw [show a - (N - V) = V - (N - a) by omega]
      exact rep_pw pv.two (Int.dvd_sub vV vt) (by omega)
    · exact rep_pw pu (Int.dvd_sub (dvd_two ub) uV) (by omega)

theorem two_sum {a b : Int} (ra : Rep a) (rb : Rep b) (ha : a = 0 ∨ 9007199254740992 ≤ a.natAbs) (hb : b = 0 ∨ 9007199254740992 ≤ b.natAbs) : TwoOk a b := by
  rcases ha with rfl | ha
  · exact two_exact ra rb (by rw [Int.zero_add]; exact rb)
  rcases hb with rfl | hb
  · exact two_exact ra rb (by rw [Int.add_zero]; exact ra)
  obtain ⟨u, pu, ua, u1, u2⟩ := rep_ulp ra ha
  obtain ⟨v, pv, vb, v1, v2⟩ := rep_ulp rb hb
  by_cases h : b.natAbs ≤ a.natAbs
  · by_cases h0 : 0 < a
    · exact two_big ra rb pu pv ua vb (by omega) (by omega) v1 v2 (by omega)
    · apply TwoOk.neg
      refine two_big (rep_neg ra) (rep_neg rb) pu pv (Int.dvd_neg.2 ua) (Int.dvd_neg.2 vb) (by omega) (by omega) ?_ ?_ ?_ <;> rw [Int.natAbs_neg] <;> omega
  · by_cases h0 : 0 < b
    · exact two_small ra rb pv pu vb ua (by omega) (by omega) u1 u2 (by omega)
    · apply TwoOk.neg
      refine two_small (rep_neg ra) (rep_neg rb) pv pu (Int.dvd_neg.2 vb) (Int.dvd_neg.2 ua) (by omega) (by omega) ?_ ?_ ?_ <;> rw [Int.natAbs_neg] <;> omega
end Go.Proofs.YtonhpkigoplmaaaGreatDoor
namespace Go.Proofs.YtonhpkigoplmaaaGreatDoor
open Go.RowKit Go.Extern Ieee

/-- An amount's rung, with one place for all that is too small and one for all that is too great. -/
def clampR (r : Int) : Int := if r < 553942754166571008 then 553942754166571007 else if 8660422083433463808 < r then 8660422083433463809 else r
def sgI (s : Bool) (r : Int) : Int := if s then -r else r

/-- The rung of a number's end, off 0 where the way goes so. -/
def endR (s : Bool) (n : Nat) (e way : Int) : Int := rung n e + if offS s way && inex n then 1 else 0

def posV (x : Bool × Nat × Int) (way : Int) : Int := if x.2.1 = 0 then 0 else sgI x.1 (clampR (endR x.1 x.2.1 x.2.2 way))
def posF (d : Nat) : Int := if d % 9223372036854775808 = 0 then 0 else sgI (decide (9223372036854775808 ≤ d)) (clampR ((d % 9223372036854775808 : Nat) : Int))

/-- Is a place a plain float's? -/
def plP (p : Int) : Bool := decide (p = 0 ∨ 553942754166571008 ≤ p.natAbs ∧ p.natAbs ≤ 8660422083433463808)
def wdP (p : Int) : Nat := wd (decide (p < 0)) p.natAbs

theorem clampR_bounds (r : Int) : 553942754166571007 ≤ clampR r ∧ clampR r ≤ 8660422083433463809 := by
  unfold clampR; split
  · omega
  · split <;> omega

theorem clampR_mono {r t : Int} (h : r ≤ t) : clampR r ≤ clampR t := by
  unfold clampR; repeat' split
  all_goals omega

theorem inex_shift_iff {n : Nat} (h : n ≠ 0) (k : Nat) : inex (n * 2 ^ k) = inex n := by
  cases hi : inex n
  · exact inex_shift h k hi
  · unfold inex at hi ⊢
    rw [decide_eq_true_eq] at hi ⊢
    rw [bl_shift h]
    refine ⟨by omega, ?_⟩
    rw [show bl n + k - 53 = (bl n - 53) + k by omega, Nat.pow_add, Nat.mul_mod_mul_right]
    intro hc
    rcases Nat.mul_eq_zero.1 hc with hc | hc
    · exact hi.2 hc
    · exact Nat.pos_iff_ne_zero.1 (Nat.two_pow_pos k) hc

theorem rung_shift {n : Nat} (h : n ≠ 0) (k : Nat) (e : Int) : rung (n * 2 ^ k) e = rung n (e + k) := by
  unfold rung
  rw [mf_shift h, bl_shift h]
  congr 2
  omega

theorem endR_shift (s : Bool) {n : Nat} (h : n ≠ 0) (k : Nat) (e way : Int) : endR s (n * 2 ^ k) e way = endR s n (e + k) way := by
  unfold endR
  rw [rung_shift h, inex_shift_iff h]

theorem bl_mono {n m : Nat} (h0 : n ≠ 0) (h : n ≤ m) : bl n ≤ bl m := by
  have h1 := bl_bounds (Nat.pos_of_ne_zero h0)
  have h2 := bl_bounds (n := m) (by omega)
  apply Decidable.byContradiction
  intro hc
  have : (2 : Nat) ^ bl m ≤ 2 ^ (bl n - 1) := Nat.pow_le_pow_right (by decide) (by omega)
  omega

/-- A greater amount, no lower rung. -/
theorem rung_mono {n m : Nat} (e : Int) (h0 : n ≠ 0) (h : n ≤ m) : rung n e ≤ rung m e ∧ (rung n e + if inex n then 1 else 0) ≤ (rung m e + if inex m then 1 else 0) := by
  have hb := bl_mono h0 h
  have m1 := mf_bounds (Nat.pos_of_ne_zero h0)
  have m2 := mf_bounds (n := m) (by omega)
  have i1 : ∀ b : Bool, (0 : Int) ≤ (if b then 1 else 0) ∧ (if b then (1 : Int) else 0) ≤ 1 := by intro b; cases b <;> decide
  by_cases heq : bl n = bl m
  · have hr : rung n e - rung m e = (mf n : Int) - mf m := by unfold rung; rw [heq]; omega
    by_cases h53 : bl n ≤ 53
    · have e1 : inex n = false := inex_small h53
      have e2 : inex m = false := inex_small (by omega)
      have : mf n ≤ mf m := by
        unfold mf
        rw [if_pos h53, if_pos (by omega), heq]
        exact Nat.mul_le_mul_right _ h
      rw [e1, e2]
      simp only [Bool.false_eq_true, if_false]
      omega
    · have f1 : mf n = n / 2 ^ (bl m - 53) := by unfold mf; rw [if_neg h53, heq]
      have f2 : mf m = m / 2 ^ (bl m - 53) := by unfold mf; rw [if_neg (by omega)]
      have x1 : inex n = decide (n % 2 ^ (bl m - 53) ≠ 0) := by unfold inex; rw [heq]; simp [show 53 < bl m by omega]
      have x2 : inex m = decide (m % 2 ^ (bl m - 53) ≠ 0) := by unfold inex; simp [show 53 < bl m by omega]
      have hp := Nat.two_pow_pos (bl m - 53)
      have d1 := Nat.div_add_mod n (2 ^ (bl m - 53))
      have d2 := Nat.div_add_mod m (2 ^ (bl m - 53))
      have hle : mf n ≤ mf m := by rw [f1, f2]; exact Nat.div_le_div_right h
      have hlt : mf n = mf m → n % 2 ^ (bl m - 53) ≤ m % 2 ^ (bl m - 53) := by
        intro hc
        rw [f1, f2] at hc
        rw [hc] at d1
        omega
      rw [x1, x2]
      generalize n % 2 ^ (bl m - 53) = r at *
      generalize m % 2 ^ (bl m - 53) = t at *
      refine ⟨by omega, ?_⟩
      by_cases hc : mf n = mf m
      · have := hlt hc
        by_cases hr0 : r = 0
        · have := (i1 (decide (t ≠ 0))).1
          rw [decide_eq_false (show ¬ r ≠ 0 by omega)]
          simp only [Bool.false_eq_true, if_false]
          omega
        · rw [decide_eq_true (show r ≠ 0 from hr0), decide_eq_true (show t ≠ 0 by omega)]
          omega
      · have a1 := (i1 (decide (r ≠ 0))).2
        have a2 := (i1 (decide (t ≠ 0))).1
        omega
  · have a1 := (i1 (inex n)).2
    have a2 := (i1 (inex m)).1
    generalize (if inex n = true then (1 : Int) else 0) = i at *
    generalize (if inex m = true then (1 : Int) else 0) = j at *
    unfold rung
    omega

/-- Is one number not above another? Both at one power of two. -/
def leV (x y : Bool × Nat × Int) : Prop := sg x.1 (lvA x.2.1 x.2.2 y.2.2) ≤ sg y.1 (lvB y.2.1 x.2.2 y.2.2)

theorem offS_down (s : Bool) : offS s (-1) = s := by cases s <;> rfl
theorem offS_up (s : Bool) : offS s 1 = !s := by cases s <;> rfl

theorem posV_mono {x y : Bool × Nat × Int} (way : Int) (hw : way = -1 ∨ way = 1) (h : leV x y) : posV x way ≤ posV y way := by
  obtain ⟨s, n, e⟩ := x
  obtain ⟨t, m, f⟩ := y
  unfold leV at h
  simp only at h
  have hp1 := Nat.two_pow_pos (e - min e f).toNat
  have hp2 := Nat.two_pow_pos (f - min e f).toNat
  have z1 : n ≠ 0 → lvA n e f ≠ 0 := fun hn => Nat.mul_ne_zero hn (by omega)
  have z2 : m ≠ 0 → lvB m e f ≠ 0 := fun hn => Nat.mul_ne_zero hn (by omega)
  have z1' : n = 0 → lvA n e f = 0 := fun hn => by unfold lvA; rw [hn, Nat.zero_mul]
  have z2' : m = 0 → lvB m e f = 0 := fun hn => by unfold lvB; rw [hn, Nat.zero_mul]
  have r1 : n ≠ 0 → endR s n e way = endR s (lvA n e f) (min e f) way := by
    intro hn
    unfold lvA
    rw [endR_shift s hn]
    congr 1
    omega
  have r2 : m ≠ 0 → endR t m f way = endR t (lvB m e f) (min e f) way := by
    intro hn
    unfold lvB
    rw [endR_shift t hn]
    congr 1
    omega
  unfold posV
  simp only
  generalize lvA n e f = N at *
  generalize lvB m e f = M at *
  have c1 := clampR_bounds (endR s n e way)
  have c2 := clampR_bounds (endR t m f way)
  by_cases hn : n = 0
  · rw [if_pos hn]
    have := z1' hn
    subst this
    by_cases hm : m = 0
    · rw [if_pos hm]; exact Int.le_refl _
    · rw [if_neg hm]
      have := z2 hm
      cases t
      · unfold sgI; rw [if_neg Bool.false_ne_true]; omega
      · unfold sg at h; simp at h; omega
  · rw [if_neg hn]
    have hN := z1 hn
    by_cases hm : m = 0
    · rw [if_pos hm]
      have := z2' hm
      subst this
      cases s
      · unfold sg at h; simp at h; omega
      · unfold sgI; rw [if_pos rfl]; omega
    · rw [if_neg hm]
      have hM := z2 hm
      cases s
      · cases t
        · have hle : N ≤ M := by unfold sg at h; simp at h; exact h
          unfold sgI
          rw [if_neg Bool.false_ne_true, if_neg Bool.false_ne_true]
          apply clampR_mono
          rw [r1 hn, r2 hm]
          have := rung_mono (min e f) hN hle
          unfold endR
          rcases hw with rfl | rfl
          · simp only [offS_down, Bool.false_and, Bool.false_eq_true, if_false, Int.add_zero]; exact this.1
          · simp only [offS_up, Bool.not_false, Bool.true_and]; exact this.2
        · exfalso
          unfold sg at h; simp at h; omega
      · cases t
        · unfold sgI
          rw [if_pos rfl, if_neg Bool.false_ne_true]; omega
        · have hle : M ≤ N := by unfold sg at h; simp at h; exact h
          unfold sgI
          rw [if_pos rfl, if_pos rfl]
          have : clampR (endR true m f way) ≤ clampR (endR true n e way) := by
            apply clampR_mono
            rw [r1 hn, r2 hm]
            have := rung_mono (min e f) hM hle
            unfold endR
            rcases hw with rfl | rfl
            · simp only [offS_down, Bool.true_and]; exact this.2
            · simp only [offS_up, Bool.not_true, Bool.false_and, Bool.false_eq_true, if_false, Int.add_zero]; exact this.1
          omega
end Go.Proofs.YtonhpkigoplmaaaGreatDoor
namespace Go.Proofs.YtonhpkigoplmaaaGreatDoor

/-- The sum of f from 0 on, n numbers. -/
def sumR : Nat → (Nat → Rat) → Rat
  | 0, _ => 0
  | n + 1, f => sumR n f + f n

theorem sumR_congr {n : Nat} {f g : Nat → Rat} (h : ∀ j, j < n → f j = g j) : sumR n f = sumR n g := by
  induction n with
  | zero => rfl
  | succ n ih => show sumR n f + f n = sumR n g + g n; rw [ih (fun j hj => h j (by omega)), h n (by omega)]

theorem sumR_lin {n : Nat} (f g : Nat → Rat) (t : Rat) : sumR n (fun j => f j - t * g j) = sumR n f - t * sumR n g := by
  induction n with
  | zero => show (0 : Rat) = 0 - t * 0; grind
  | succ n ih => show sumR n (fun j => f j - t * g j) + (f n - t * g n) = (sumR n f + f n) - t * (sumR n g + g n); rw [ih]; grind

theorem sumR_shift {n : Nat} (f : Nat → Rat) : sumR (n + 1) f = f 0 + sumR n (fun j => f (j + 1)) := by
  induction n with
  | zero => show (0 : Rat) + f 0 = f 0 + 0; grind
  | succ n ih => show sumR (n + 1) f + f (n + 1) = f 0 + (sumR n (fun j => f (j + 1)) + f (n + 1)); rw [ih]; grind

/-- The determinant, by the first row. -/
def detR : Nat → (Nat → Nat → Rat) → Rat
  | 0, _ => 1
  | n + 1, m => sumR (n + 1) (fun j => (if j % 2 = 1 then -1 else 1) * (m 0 j * detR n (fun i k => m (i + 1) (if k < j then k else k + 1))))

def det2 (a b c d : Rat) : Rat := a * d - b * c
def det3 (a b c d e f g h i : Rat) : Rat := a * (e * i - f * h) - b * (d * i - f * g) + c * (d * h - e * g)
def det4 (a b c d e f g h i j k l m n o p : Rat) : Rat := a * det3 f g h j k l n o p - b * det3 e g h i k l m o p + c * det3 e f h i j l m n p - d * det3 e f g i j k m n o

theorem detR1 (m : Nat → Nat → Rat) : detR 1 m = m 0 0 := by
  simp [detR, sumR]; grind
theorem detR2 (m : Nat → Nat → Rat) : detR 2 m = det2 (m 0 0) (m 0 1) (m 1 0) (m 1 1) := by
  simp [detR, sumR, det2]; grind
theorem detR3 (m : Nat → Nat → Rat) : detR 3 m = det3 (m 0 0) (m 0 1) (m 0 2) (m 1 0) (m 1 1) (m 1 2) (m 2 0) (m 2 1) (m 2 2) := by
  simp [detR, sumR, det3]; grind
theorem detR4 (m : Nat → Nat → Rat) : detR 4 m = det4 (m 0 0) (m 0 1) (m 0 2) (m 0 3) (m 1 0) (m 1 1) (m 1 2) (m 1 3) (m 2 0) (m 2 1) (m 2 2) (m 2 3) (m 3 0) (m 3 1) (m 3 2) (m 3 3) := by
  simp [detR, sumR, det4, det3]; grind

theorem detR_congr : ∀ (n : Nat) {m m' : Nat → Nat → Rat}, (∀ i j, i < n → j < n → m i j = m' i j) → detR n m = detR n m'
  | 0, _, _, _ => rfl
  | n + 1, m, m', h => by
    unfold detR
    apply sumR_congr
    intro j hj
    rw [h 0 j (by omega) hj, detR_congr n (m := fun i k => m (i + 1) (if k < j then k else k + 1)) (m' := fun i k => m' (i + 1) (if k < j then k else k + 1)) (fun i k hi hk => h _ _ (by omega) (by split <;> omega))]

theorem le4 {n : Nat} (h : n ≤ 4) : n = 0 ∨ n = 1 ∨ n = 2 ∨ n = 3 ∨ n = 4 := by omega

/-- A step of the elimination. -/
theorem det_step {n : Nat} (hn : n + 1 ≤ 4) (m : Nat → Nat → Rat) (t : Nat → Rat) (h : ∀ i, i < n → m (i + 1) 0 = t i * m 0 0) : detR (n + 1) m = m 0 0 * detR n (fun i j => m (i + 1) (j + 1) - t i * m 0 (j + 1)) := by
  rcases le4 (n := n) (by omega) with rfl | rfl | rfl | rfl | rfl
  · rw [detR1]; show m 0 0 = m 0 0 * 1; grind
  · have h0 := h 0 (by omega)
    rw [detR2, detR1]; unfold det2; simp only [Nat.zero_add] at *; rw [h0]; grind
  · have h0 := h 0 (by omega)
    have h1 := h 1 (by omega)
    rw [detR3, detR2]; unfold det3 det2; simp only [Nat.zero_add, Nat.reduceAdd] at *; rw [h0, h1]; grind
  · have h0 := h 0 (by omega)
    have h1 := h 1 (by omega)
    have h2 := h 2 (by omega)
    rw [detR4, detR3]; unfold det4 det3; simp only [Nat.zero_add, Nat.reduceAdd] at *; rw [h0, h1, h2]; grind
  · omega

/-- Two rows change their places. -/
def swapR {α : Type} (m : Nat → α) (k a : Nat) : Nat → α := fun i => if i = k then m a else if i = a then m k else m i

theorem det_swap {n a : Nat} (hn : n ≤ 4) (ha : a < n) (h0 : a ≠ 0) (m : Nat → Nat → Rat) : detR n (swapR m 0 a) = - detR n m := by
  rcases le4 hn with rfl | rfl | rfl | rfl | rfl
  · omega
  · omega
  · obtain rfl : a = 1 := by omega
    rw [detR2, detR2]; simp only [swapR, det2]; simp; grind
  · rw [detR3, detR3]
    rcases (show a = 1 ∨ a = 2 by omega) with rfl | rfl <;> (simp only [swapR, det3]; simp; grind)
  · rw [detR4, detR4]
    rcases (show a = 1 ∨ a = 2 ∨ a = 3 by omega) with rfl | rfl | rfl <;> (simp only [swapR, det4, det3]; simp; grind)

/-- A column changed for another. -/
def colR (m : Nat → Nat → Rat) (v : Nat → Rat) (c : Nat) : Nat → Nat → Rat := fun i j => if j = c then v i else m i j

/-- What the columns' determinants solve. -/
theorem det_solves {n : Nat} (hn : n ≤ 4) (m : Nat → Nat → Rat) (v : Nat → Rat) (i : Nat) (hi : i < n) : sumR n (fun j => m i j * detR n (colR m v j)) = v i * detR n m := by
  rcases le4 hn with rfl | rfl | rfl | rfl | rfl
  · omega
  · obtain rfl : i = 0 := by omega
    simp only [sumR, detR1, colR]; simp; grind
  · simp only [sumR, detR2, colR, det2]
    rcases (show i = 0 ∨ i = 1 by omega) with rfl | rfl <;> (simp; grind)
  · simp only [sumR, detR3, colR, det3]
    rcases (show i = 0 ∨ i = 1 ∨ i = 2 by omega) with rfl | rfl | rfl <;> (simp; grind)
  · simp only [sumR, detR4, colR, det4, det3]
    rcases (show i = 0 ∨ i = 1 ∨ i = 2 ∨ i = 3 by omega) with rfl | rfl | rfl | rfl <;> (simp; grind)
end Go.Proofs.YtonhpkigoplmaaaGreatDoor
namespace Go.Proofs.YtonhpkigoplmaaaGreatDoor

/-- One entry of a row changed. -/
def upd {α : Type} (r : Nat → α) (j : Nat) (c : α) : Nat → α := fun x => if x = j then c else r x

theorem upd_same {α : Type} (r : Nat → α) (j : Nat) (c : α) : upd r j c j = c := by unfold upd; rw [if_pos rfl]
theorem upd_ne {α : Type} {r : Nat → α} {j x : Nat} {c : α} (h : x ≠ j) : upd r j c x = r x := by unfold upd; rw [if_neg h]

section
variable {α : Type} (mu su qo : α → α → Option α) (pv : (Nat → Nat → α) → Nat → Nat → Option Nat)

/-- x - y * z. -/
def lpX (a b c : α) : Option α := (mu b c).bind fun t => su a t

/-- takeFrom's loop: f entries from the j-th on. -/
def takeJ (t : α) (br : Nat → α) : Nat → Nat → (Nat → α) → Option (Nat → α)
  | 0, _, r => some r
  | f + 1, j, r => (lpX mu su (r j) t (br j)).bind fun c => takeJ t br f (j + 1) (upd r j c)

def takeX (n k : Nat) (row br : Nat → α) : Option (Nat → α) := (qo (row k) (br k)).bind fun t => takeJ mu su t br (n - k) (k + 1) row

def takeI (n k : Nat) : Nat → Nat → (Nat → Nat → α) → Option (Nat → Nat → α)
  | 0, _, M => some M
  | f + 1, i, M => (takeX mu su qo n k (M i) (M k)).bind fun r => takeI n k f (i + 1) (upd M i r)

def elimX (n : Nat) : Nat → Nat → (Nat → Nat → α) → Option (Nat → Nat → α)
  | 0, _, M => some M
  | f + 1, k, M => (pv M n k).bind fun a => (takeI mu su qo n k (n - 1 - k) (k + 1) (swapR M k a)).bind fun M' => elimX n f (k + 1) M'

def restJ (row found : Nat → α) : Nat → Nat → α → Option α
  | 0, _, r => some r
  | f + 1, j, r => (lpX mu su r (row j) (found j)).bind fun c => restJ row found f (j + 1) c

def substX (n : Nat) (M : Nat → Nat → α) : Nat → (Nat → α) → Option (Nat → α)
  | 0, g => some g
  | i + 1, g => (restJ mu su (M i) g (n - 1 - i) (i + 1) (M i n)).bind fun r => (qo r (M i i)).bind fun c => substX n M i (upd g i c)

def solveX (n : Nat) (M : Nat → Nat → α) (z : Nat → α) : Option (Nat → α) := (elimX mu su qo pv n n 0 M).bind fun M' => substX mu su qo n M' n z

end

/-- What is known of the operations. -/
structure Holding {α : Type} (mem : α → Rat → Prop) (mu su qo : α → α → Option α) (pv : (Nat → Nat → α) → Nat → Nat → Option Nat) : Prop where
  mu : ∀ a b c x y, mu a b = some c → mem a x → mem b y → mem c (x * y)
  su : ∀ a b c x y, su a b = some c → mem a x → mem b y → mem c (x - y)
  qo : ∀ a b c x y, ¬ mem b 0 → qo a b = some c → mem a x → mem b y → mem c (x / y)
  pv : ∀ M n k a, pv M n k = some a → k ≤ a ∧ a < n ∧ ¬ mem (M a k) 0

section
variable {α : Type} {mem : α → Rat → Prop} {mu su qo : α → α → Option α} {pv : (Nat → Nat → α) → Nat → Nat → Option Nat}

theorem lp_mem (H : Holding mem mu su qo pv) {a b c d : α} {x y z : Rat} (h : lpX mu su a b c = some d) (hx : mem a x) (hy : mem b y) (hz : mem c z) : mem d (x - y * z) := by
  unfold lpX at h
  obtain ⟨t, ht, h2⟩ := Option.bind_eq_some_iff.1 h
  exact H.su _ _ _ _ _ h2 hx (H.mu _ _ _ _ _ ht hy hz)

theorem takeJ_mem (H : Holding mem mu su qo pv) {t : α} {br : Nat → α} {T : Rat} {B : Nat → Rat} (ht : mem t T) : ∀ (f j : Nat) (r r' : Nat → α) (R : Nat → Rat), takeJ mu su t br f j r = some r' → (∀ x, j ≤ x → x < j + f → mem (br x) (B x)) → (∀ x, j ≤ x → x < j + f → mem (r x) (R x)) → (∀ x, j ≤ x → x < j + f → mem (r' x) (R x - T * B x)) ∧ (∀ x, x < j ∨ j + f ≤ x → r' x = r x)
  | 0, j, r, r', R, h, _, _ => by
    obtain rfl := Option.some.inj h
    exact ⟨fun x h1 h2 => absurd h1 (by omega), fun x _ => rfl⟩
  | f + 1, j, r, r', R, h, hB, hR => by
    obtain ⟨c, hc, h2⟩ := Option.bind_eq_some_iff.1 h
    have hm := lp_mem H hc (hR j (by omega) (by omega)) ht (hB j (by omega) (by omega))
    obtain ⟨k1, k2⟩ := takeJ_mem H ht f (j + 1) (upd r j c) r' R h2 (fun x a b => hB x (by omega) (by omega)) (fun x a b => by rw [upd_ne (by omega)]; exact hR x (by omega) (by omega))
    refine ⟨fun x a b => ?_, fun x a => ?_⟩
    · by_cases hx : x = j
      · subst hx
        rw [k2 x (by omega), upd_same]; exact hm
      · exact k1 x (by omega) (by omega)
    · rw [k2 x (by omega), upd_ne (by omega)]

/-- One row: what is left of it behind k. -/
theorem takeX_mem (H : Holding mem mu su qo pv) {n k : Nat} {row br r' : Nat → α} {R B : Nat → Rat} (hk : k ≤ n) (h : takeX mu su qo n k row br = some r') (h0 : ¬ mem (br k) 0) (hR : ∀ x, k ≤ x → x ≤ n → mem (row x) (R x)) (hB : ∀ x, k ≤ x → x ≤ n → mem (br x) (B x)) : ∀ x, k < x → x ≤ n → mem (r' x) (R x - R k / B k * B x) := by
  obtain ⟨t, ht, h2⟩ := Option.bind_eq_some_iff.1 h
  have hm := H.qo _ _ _ _ _ h0 ht (hR k (by omega) hk) (hB k (by omega) hk)
  obtain ⟨k1, _⟩ := takeJ_mem H hm (n - k) (k + 1) row r' R h2 (fun x a b => hB x (by omega) (by omega)) (fun x a b => hR x (by omega) (by omega))
  exact fun x a b => k1 x (by omega) (by omega)

theorem takeI_mem (H : Holding mem mu su qo pv) {n k : Nat} (hk : k < n) : ∀ (f i : Nat) (M M' : Nat → Nat → α) (R : Nat → Nat → Rat), takeI mu su qo n k f i M = some M' → k < i → i + f = n → ¬ mem (M k k) 0 → (∀ y x, (y = k ∨ i ≤ y) → y < n → k ≤ x → x ≤ n → mem (M y x) (R y x)) → (∀ y x, i ≤ y → y < n → k < x → x ≤ n → mem (M' y x) (R y x - R y k / R k k * R k x)) ∧ (∀ y, y < i → M' y = M y)
  | 0, i, M, M', R, h, _, _, _, _ => by
    obtain rfl := Option.some.inj h
    exact ⟨fun y x a b => by omega, fun y _ => rfl⟩
  | f + 1, i, M, M', R, h, hki, hin, h0, hR => by
    obtain ⟨r, hr, h2⟩ := Option.bind_eq_some_iff.1 h
    have hm := takeX_mem H (by omega) hr h0 (fun x a b => hR i x (by omega) (by omega) a b) (fun x a b => hR k x (by omega) (by omega) a b)
    have hM : ∀ y, y ≠ i → upd M i r y = M y := fun y hy => upd_ne hy
    obtain ⟨k1, k2⟩ := takeI_mem H hk f (i + 1) (upd M i r) M' R h2 (by omega) (by omega) (by rw [hM k (by omega)]; exact h0) (fun y x a b c d => by rw [hM y (by omega)]; exact hR y x (by omega) b c d)
    refine ⟨fun y x a b c d => ?_, fun y a => ?_⟩
    · by_cases hy : y = i
      · subst hy
        rw [k2 y (by omega), upd_same]; exact hm x c d
      · exact k1 y x (by omega) b c d
    · rw [k2 y (by omega), hM y (by omega)]

/-- The elimination from the k-th row on: numbers that the rows hold are brought along: their determinant is not 0, what solves them solves the steps. -/
theorem elimX_mem (H : Holding mem mu su qo pv) {n : Nat} (hn : n ≤ 4) : ∀ (f k : Nat) (M M' : Nat → Nat → α) (R : Nat → Nat → Rat), elimX mu su qo pv n f k M = some M' → k + f = n → (∀ y x, k ≤ y → y < n → k ≤ x → x ≤ n → mem (M y x) (R y x)) →
    ∃ R' : Nat → Nat → Rat, (∀ y x, k ≤ y → y < n → y ≤ x → x ≤ n → mem (M' y x) (R' y x)) ∧ (∀ y, k ≤ y → y < n → ¬ mem (M' y y) 0) ∧ (∀ y, y < k → M' y = M y) ∧ detR f (fun i j => R (k + i) (k + j)) ≠ 0 ∧
      (∀ X : Nat → Rat, (∀ y, k ≤ y → y < n → sumR f (fun j => R y (k + j) * X (k + j)) = R y n) → ∀ y, k ≤ y → y < n → sumR (n - y) (fun j => R' y (y + j) * X (y + j)) = R' y n)
  | 0, k, M, M', R, h, hk, _ => by
    obtain rfl := Option.some.inj h
    refine ⟨R, fun y x a b => by omega, fun y a b => by omega, fun y _ => rfl, ?_, fun X _ y a b => by omega⟩
    show (1 : Rat) ≠ 0; decide
  | f + 1, k, M, M', R, h, hk, hR => by
    obtain ⟨a, ha, h1⟩ := Option.bind_eq_some_iff.1 h
    obtain ⟨M1, hM1, h2⟩ := Option.bind_eq_some_iff.1 h1
    obtain ⟨a1, a2, a3⟩ := H.pv _ _ _ _ ha
    have hs : ∀ y x, k ≤ y → y < n → k ≤ x → x ≤ n → mem (swapR M k a y x) (swapR R k a y x) := by
      intro y x b c d e
      unfold swapR
      by_cases hy : y = k
      · rw [if_pos hy, if_pos hy]; exact hR a x a1 a2 d e
      · rw [if_neg hy, if_neg hy]
        by_cases hy2 : y = a
        · rw [if_pos hy2, if_pos hy2]; exact hR k x (by omega) (by omega) d e
        · rw [if_neg hy2, if_neg hy2]; exact hR y x b c d e
    have hp : swapR M k a k = M a := by unfold swapR; rw [if_pos rfl]
    have h0 : ¬ mem (swapR M k a k k) 0 := by rw [hp]; exact a3
    generalize hSM : swapR M k a = SM at *
    have hSR : ∀ y, y ≠ k → y ≠ a → swapR R k a y = R y := fun y b c => by unfold swapR; rw [if_neg b, if_neg c]
    have hSRk : swapR R k a k = R a := by unfold swapR; rw [if_pos rfl]
    have hSRa : swapR R k a a = R k := by unfold swapR; by_cases hc : a = k <;> simp [hc]
    generalize hQ : swapR R k a = Q at *
    obtain ⟨t1, t2⟩ := takeI_mem H (by omega) (n - 1 - k) (k + 1) SM M1 Q hM1 (by omega) (by omega) h0 (fun y x b c d e => hs y x (by omega) c d e)
    have hq0 : Q k k ≠ 0 := by
      intro hc
      have := hs k k (by omega) (by omega) (by omega) (by omega)
      rw [hc] at this
      exact h0 this
    obtain ⟨R', r1, r2, r3, r4, r5⟩ := elimX_mem H hn f (k + 1) M1 M' (fun y x => Q y x - Q y k / Q k k * Q k x) h2 (by omega) (fun y x b c d e => t1 y x b c (by omega) e)
    have hrow : ∀ y, y ≤ k → M' y = SM y := fun y hy => by rw [r3 y (by omega), t2 y (by omega)]
    refine ⟨fun y x => if y = k then Q k x else R' y x, fun y x b c d e => ?_, fun y b c => ?_, fun y b => ?_, ?_, fun X hX y b c => ?_⟩
    · simp only
      by_cases hy : y = k
      · rw [if_pos hy, hy, hrow k (by omega)]; exact hs k x (by omega) (by omega) (by omega) e
      · rw [if_neg hy]; exact r1 y x (by omega) c d e
    · by_cases hy : y = k
      · rw [hy, hrow k (by omega)]; exact h0
      · exact r2 y (by omega) c
    · rw [hrow y (by omega), ← hSM]
      unfold swapR
      rw [if_neg (by omega), if_neg (by omega)]
    · -- the determinant
      have hd : detR (f + 1) (fun i j => Q (k + i) (k + j)) ≠ 0 := by
        rw [det_step (by omega) (fun i j => Q (k + i) (k + j)) (fun i => Q (k + (i + 1)) k / Q k k) (fun i hi => by simp only [Nat.add_zero]; grind)]
        simp only [Nat.add_zero]
        have e : (fun i j => Q (k + (i + 1)) (k + (j + 1)) - Q (k + (i + 1)) k / Q k k * Q k (k + (j + 1))) = (fun i j => (fun y x => Q y x - Q y k / Q k k * Q k x) (k + 1 + i) (k + 1 + j)) := by
          funext i j
          simp only
          rw [show k + (i + 1) = k + 1 + i by omega, show k + (j + 1) = k + 1 + j by omega]
        rw [e]
        intro hc
        rcases Rat.mul_eq_zero.1 hc with hc | hc
        · exact hq0 hc
        · exact r4 hc
      by_cases hak : a = k
      · have : Q = R := by
          rw [← hQ, hak]
          funext y; unfold swapR
          by_cases hy : y = k
          · rw [if_pos hy, hy]
          · rw [if_neg hy, if_neg hy]
        rw [this] at hd; exact hd
      · have e : (fun i j => Q (k + i) (k + j)) = swapR (fun i j => R (k + i) (k + j)) 0 (a - k) := by
          funext i j
          rw [← hQ]
          unfold swapR
          by_cases h1 : i = 0
          · rw [if_pos (by omega), if_pos h1]
            simp only
            rw [show k + (a - k) = a by omega]
          · rw [if_neg (by omega), if_neg h1]
            by_cases h2 : i = a - k
            · rw [if_pos (by omega), if_pos h2]; rfl
            · rw [if_neg (by omega), if_neg h2]
        rw [e, det_swap (by omega) (by omega) (by omega)] at hd
        intro hc
        rw [hc] at hd
        exact hd (by decide)
    · -- what solves it
      have hXQ : ∀ y, k ≤ y → y < n → sumR (f + 1) (fun j => Q y (k + j) * X (k + j)) = Q y n := by
        intro y b c
        by_cases hy : y = k
        · rw [hy, hSRk]; exact hX a a1 a2
        · by_cases hya : y = a
          · rw [hya, hSRa]; exact hX k (by omega) (by omega)
          · rw [hSR y hy hya]; exact hX y b c
      by_cases hy : y = k
      · subst hy
        simp only [if_pos]
        rw [show n - y = f + 1 by omega]
        exact hXQ y (by omega) (by omega)
      · simp only [if_neg hy]
        refine r5 X (fun y' b' c' => ?_) y (by omega) c
        have e1 := hXQ y' (by omega) c'
        have e2 := hXQ k (by omega) (by omega)
        rw [sumR_shift] at e1 e2
        simp only [Nat.add_zero] at e1 e2
        have e3 := sumR_lin (n := f) (fun j => Q y' (k + (j + 1)) * X (k + (j + 1))) (fun j => Q k (k + (j + 1)) * X (k + (j + 1))) (Q y' k / Q k k)
        have e4 : sumR f (fun j => (Q y' (k + 1 + j) - Q y' k / Q k k * Q k (k + 1 + j)) * X (k + 1 + j)) = sumR f (fun j => Q y' (k + (j + 1)) * X (k + (j + 1)) - Q y' k / Q k k * (Q k (k + (j + 1)) * X (k + (j + 1)))) := by
          apply sumR_congr
          intro j _
          rw [show k + 1 + j = k + (j + 1) by omega]; grind
        show sumR f (fun j => (Q y' (k + 1 + j) - Q y' k / Q k k * Q k (k + 1 + j)) * X (k + 1 + j)) = Q y' n - Q y' k / Q k k * Q k n
        rw [e4, e3]
        generalize sumR f (fun j => Q y' (k + (j + 1)) * X (k + (j + 1))) = S1 at *
        generalize sumR f (fun j => Q k (k + (j + 1)) * X (k + (j + 1))) = S2 at *
        grind

theorem restJ_mem (H : Holding mem mu su qo pv) {row g : Nat → α} {B X : Nat → Rat} : ∀ (f j : Nat) (r r' : α) (x : Rat), restJ mu su row g f j r = some r' → (∀ y, j ≤ y → y < j + f → mem (row y) (B y)) → (∀ y, j ≤ y → y < j + f → mem (g y) (X y)) → mem r x → mem r' (x - sumR f (fun i => B (j + i) * X (j + i)))
  | 0, j, r, r', x, h, _, _, hx => by
    obtain rfl := Option.some.inj h
    show mem r (x - 0)
    rwa [show x - 0 = x by grind]
  | f + 1, j, r, r', x, h, hB, hX, hx => by
    obtain ⟨c, hc, h2⟩ := Option.bind_eq_some_iff.1 h
    have hm := lp_mem H hc hx (hB j (by omega) (by omega)) (hX j (by omega) (by omega))
    have := restJ_mem H f (j + 1) c r' _ h2 (fun y a b => hB y (by omega) (by omega)) (fun y a b => hX y (by omega) (by omega)) hm
    rw [sumR_shift]
    simp only [Nat.add_zero]
    have e : sumR f (fun i => B (j + (i + 1)) * X (j + (i + 1))) = sumR f (fun i => B (j + 1 + i) * X (j + 1 + i)) := by
      apply sumR_congr
      intro i _
      rw [show j + (i + 1) = j + 1 + i by omega]
    rw [e]
    generalize sumR f (fun i => B (j + 1 + i) * X (j + 1 + i)) = S at *
    rwa [show x - (B j * X j + S) = x - B j * X j - S by grind]

theorem substX_mem (H : Holding mem mu su qo pv) {n : Nat} {M : Nat → Nat → α} {R : Nat → Nat → Rat} {X : Nat → Rat} (hR : ∀ y x, y < n → y ≤ x → x ≤ n → mem (M y x) (R y x)) (h0 : ∀ y, y < n → ¬ mem (M y y) 0) (hX : ∀ y, y < n → sumR (n - y) (fun j => R y (y + j) * X (y + j)) = R y n) :
    ∀ (i : Nat) (g g' : Nat → α), substX mu su qo n M i g = some g' → i ≤ n → (∀ y, i ≤ y → y < n → mem (g y) (X y)) → ∀ y, y < n → mem (g' y) (X y)
  | 0, g, g', h, _, hg => by
    obtain rfl := Option.some.inj h
    exact fun y hy => hg y (by omega) hy
  | i + 1, g, g', h, hi, hg => by
    obtain ⟨r, hr, h1⟩ := Option.bind_eq_some_iff.1 h
    obtain ⟨c, hc, h2⟩ := Option.bind_eq_some_iff.1 h1
    have m1 := restJ_mem H (n - 1 - i) (i + 1) _ _ _ hr (fun y a b => hR i y (by omega) (by omega) (by omega)) (fun y a b => hg y (by omega) (by omega)) (hR i n (by omega) (by omega) (by omega))
    have m2 := H.qo _ _ _ _ _ (h0 i (by omega)) hc m1 (hR i i (by omega) (by omega) (by omega))
    have hne : R i i ≠ 0 := fun hz => h0 i (by omega) (by have := hR i i (by omega) (by omega) (by omega); rwa [hz] at this)
    have hxi := hX i (by omega)
    rw [show n - i = (n - 1 - i) + 1 by omega, sumR_shift] at hxi
    simp only [Nat.add_zero] at hxi
    have e : sumR (n - 1 - i) (fun j => R i (i + (j + 1)) * X (i + (j + 1))) = sumR (n - 1 - i) (fun j => R i (i + 1 + j) * X (i + 1 + j)) := by
      apply sumR_congr
      intro j _
      rw [show i + (j + 1) = i + 1 + j by omega]
    rw [e] at hxi
    generalize sumR (n - 1 - i) (fun j => R i (i + 1 + j) * X (i + 1 + j)) = S at *
    have hq : (R i n - S) / R i i = X i := by grind
    rw [hq] at m2
    refine substX_mem H hR h0 hX i (upd g i c) g' h2 (by omega) (fun y a b => ?_)
    by_cases hy : y = i
    · subst hy; rw [upd_same]; exact m2
    · rw [upd_ne hy]; exact hg y (by omega) b

/-- What Solve answers holds what solves each system that is held; its determinant is not 0. -/
theorem solveX_mem (H : Holding mem mu su qo pv) {n : Nat} (hn : n ≤ 4) {M : Nat → Nat → α} {z g : Nat → α} {R : Nat → Nat → Rat} (h : solveX mu su qo pv n M z = some g) (hR : ∀ y x, y < n → x ≤ n → mem (M y x) (R y x)) :
    detR n R ≠ 0 ∧ ∀ i, i < n → mem (g i) (detR n (colR R (fun y => R y n) i) / detR n R) := by
  obtain ⟨M', h1, h2⟩ := Option.bind_eq_some_iff.1 h
  obtain ⟨R', r1, r2, r3, r4, r5⟩ := elimX_mem H hn n 0 M M' R h1 (by omega) (fun y x _ a _ b => hR y x a b)
  simp only [Nat.zero_add] at r4 r5
  refine ⟨r4, ?_⟩
  refine substX_mem H (R := R') (X := fun i => detR n (colR R (fun y => R y n) i) / detR n R) (fun y x a b c => r1 y x (by omega) a b c) (fun y a => r2 y (by omega) a) (fun y a => ?_) n z g h2 (Nat.le_refl _) (fun y a b => by omega)
  refine r5 (fun i => detR n (colR R (fun y => R y n) i) / detR n R) (fun y' _ c => ?_) y (by omega) a
  have := det_solves hn R (fun y => R y n) y' c
  have e : sumR n (fun j => R y' j * (detR n (colR R (fun y => R y n) j) / detR n R)) = sumR n (fun j => 0 - (-(1 / detR n R)) * (R y' j * detR n (colR R (fun y => R y n) j))) := by
    apply sumR_congr
    intro j _
    grind
  rw [e, sumR_lin, this]
  have z0 : ∀ m, sumR m (fun _ => (0 : Rat)) = 0 := by
    intro m
    induction m with
    | zero => rfl
    | succ m ih => show sumR m (fun _ => (0 : Rat)) + 0 = 0; rw [ih]; grind
  rw [z0]
  grind
end
end Go.Proofs.YtonhpkigoplmaaaGreatDoor
