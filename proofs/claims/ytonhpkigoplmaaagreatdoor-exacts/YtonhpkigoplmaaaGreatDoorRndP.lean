/-
  The nearest float of a number, and what lies beside it.
-/
import Derived.Test.YtonhpkigoplmaaaGreatDoorSumN
namespace Go.Proofs.YtonhpkigoplmaaaGreatDoor
open Go.RowKit Go.Extern Ieee

/-- On which side of its nearest float a number lies. -/
def side (s : Bool) (n : Nat) : Ordering := if inex n = false then .eq else if s = nup n then .gt else .lt

theorem nup_inex {n : Nat} (h : nup n = true) : inex n = true := by
  cases hi : inex n
  · rw [nup_rep hi] at h; cases h
  · rfl

theorem around_round (s : Bool) (n : Nat) (e : Int) (q : Nat) (w : World) (h0 : n ≠ 0) (h1 : -1021 ≤ e + bl n) (h2 : e + bl n ≤ 1022) (hq : FloatKind.f64.format.order q 0 = some (side s n)) :
    Calls Tryz.prog 141 #[.float .f64 (double.nearest s n e), .float .f64 q] w fun ev w' => ev = .returned (.agg #[.float .f64 (wd s (rung n e + if offS s (-1) && inex n then 1 else 0).toNat), .float .f64 (wd s (rung n e + if offS s 1 && inex n then 1 else 0).toNat)]) ∧ Below w.heap.size w w' := by
  have hnr := nearest_rung s h0 h1 (by omega)
  have hm := mf_bounds (Nat.pos_of_ne_zero h0)
  obtain ⟨R, hR⟩ : ∃ R : Nat, rung n e = (R : Int) ∧ 0 < R ∧ R + 1 < 9218868437227405312 := by
    refine ⟨(rung n e).toNat, ?_⟩
    unfold rung
    omega
  obtain ⟨hR, r0, r1⟩ := hR
  rw [hR] at hnr ⊢
  have hcast : ∀ b : Bool, ((R : Int) + if b = true then 1 else 0).toNat = R + (if b = true then 1 else 0) := by
    intro b; cases b <;> simp
  rw [hcast] at hnr
  rw [hcast, hcast]
  have hnw : double.nearest s n e = wd s (R + if nup n = true then 1 else 0) := hnr
  rw [hnw]
  cases hi : inex n
  · have hn : nup n = false := nup_rep hi
    have hs : side s n = .eq := by unfold side; rw [if_pos hi]
    rw [hs] at hq
    have := aroundF_eq (wd s R) q w hq
    simpa [hn] using this
  · cases hn : nup n
    · cases s
      · have hs : side false n = .gt := by unfold side; rw [hi, hn]; rfl
        rw [hs] at hq
        have := aroundF_pos false R q w hq (by omega) r0
        simpa [offS] using this
      · have hs : side true n = .lt := by unfold side; rw [hi, hn]; rfl
        rw [hs] at hq
        have := aroundF_neg true R q w hq (by omega) r0
        simpa [offS] using this
    · cases s
      · have hs : side false n = .lt := by unfold side; rw [hi, hn]; rfl
        rw [hs] at hq
        have := aroundF_neg false (R + 1) q w hq (by omega) (by omega)
        simpa [offS] using this
      · have hs : side true n = .gt := by unfold side; rw [hi, hn]; rfl
        rw [hs] at hq
        have := aroundF_pos true (R + 1) q w hq (by omega) (by omega)
        simpa [offS] using this

/-- The amount of the nearest float (of as great a power of two). -/
def nearM (n : Nat) : Nat := if bl n ≤ 53 then n else (mf n + if nup n then 1 else 0) * 2 ^ (bl n - 53)

theorem inex_small {n : Nat} (h : bl n ≤ 53) : inex n = false := by
  unfold inex; rw [decide_eq_false]; omega

theorem nearM_facts {n : Nat} (h0 : n ≠ 0) : nearM n ≠ 0 ∧ inex (nearM n) = false ∧ (∀ e, rung (nearM n) e = rung n e + if nup n then 1 else 0) ∧ bl (nearM n) ≤ bl n + 1 := by
  unfold nearM
  by_cases hb : bl n ≤ 53
  · rw [if_pos hb]
    have hn : nup n = false := nup_rep (inex_small hb)
    refine ⟨h0, inex_small hb, ?_, by omega⟩
    intro e; rw [hn]; simp
  · rw [if_neg hb]
    obtain ⟨m1, m2⟩ := mf_bounds (Nat.pos_of_ne_zero h0)
    have hx : ∀ x : Nat, 4503599627370496 ≤ x → x < 9007199254740992 → x * 2 ^ (bl n - 53) ≠ 0 ∧ inex (x * 2 ^ (bl n - 53)) = false ∧ (∀ e : Int, rung (x * 2 ^ (bl n - 53)) e = (e + bl n + 1021) * 4503599627370496 + (x : Int)) ∧ bl (x * 2 ^ (bl n - 53)) ≤ bl n + 1 := by
      intro x x1 x2
      have hx0 : x ≠ 0 := by omega
      have hbx := bl53 x1 x2
      refine ⟨Nat.mul_ne_zero hx0 (Nat.pos_iff_ne_zero.1 (Nat.two_pow_pos _)), inex_shift hx0 _ (inex_small (by omega)), ?_, by rw [bl_shift hx0]; omega⟩
      intro e
      unfold rung
      rw [mf_shift hx0, bl_shift hx0, hbx]
      have : mf x = x := by unfold mf; rw [if_pos (by omega), hbx]; simp
      rw [this]
      congr 2
      omega
    cases hn : nup n
    · have := hx (mf n) m1 m2
      simpa [rung] using this
    · by_cases hc : mf n + 1 < 9007199254740992
      · have := hx (mf n + 1) (by omega) hc
        simp only [if_true]
        refine ⟨this.1, this.2.1, ?_, this.2.2.2⟩
        intro e
        rw [this.2.2.1]
        unfold rung
        omega
      · have hm : mf n + 1 = 9007199254740992 := by omega
        simp only [if_true]
        rw [hm]
        have hb54 := bl54
        have h54 : (9007199254740992 : Nat) ≠ 0 := by decide
        have hmf : mf 9007199254740992 = 4503599627370496 := by unfold mf; rw [hb54]; rfl
        refine ⟨Nat.mul_ne_zero h54 (Nat.pos_iff_ne_zero.1 (Nat.two_pow_pos _)), inex_shift h54 _ (by unfold inex; rw [hb54]; rfl), ?_, by rw [bl_shift h54]; omega⟩
        intro e
        unfold rung
        rw [mf_shift h54, bl_shift h54, hb54, hmf]
        omega

theorem nearM_cmp (n : Nat) : (inex n = false → nearM n = n) ∧ (inex n = true → nup n = true → n < nearM n) ∧ (inex n = true → nup n = false → nearM n < n) ∧ n ≤ nearM n + 2 ^ (bl n - 53) ∧ nearM n ≤ n + 2 ^ (bl n - 53) := by
  unfold nearM
  by_cases hb : bl n ≤ 53
  · rw [if_pos hb]
    have hi := inex_small hb
    refine ⟨fun _ => rfl, fun h => (by rw [hi] at h; cases h), fun h => (by rw [hi] at h; cases h), Nat.le_add_right _ _, Nat.le_add_right _ _⟩
  · rw [if_neg hb]
    have hmf : mf n = n / 2 ^ (bl n - 53) := by unfold mf; rw [if_neg hb]
    have hix : inex n = decide (n % 2 ^ (bl n - 53) ≠ 0) := by unfold inex; simp [show 53 < bl n by omega]
    have hd := Nat.div_add_mod n (2 ^ (bl n - 53))
    have hl := Nat.mod_lt n (Nat.two_pow_pos (bl n - 53))
    rw [hmf]
    cases hn : nup n
    · rw [if_neg Bool.false_ne_true, Nat.add_zero]
      rw [Nat.mul_comm] at hd
      generalize n / 2 ^ (bl n - 53) * 2 ^ (bl n - 53) = A at *
      generalize n % 2 ^ (bl n - 53) = r at *
      generalize 2 ^ (bl n - 53) = g at *
      refine ⟨fun h => ?_, fun _ h => (by cases h), fun h _ => ?_, by omega, by omega⟩
      · rw [hix, decide_eq_false_iff_not] at h; omega
      · rw [hix, decide_eq_true_eq] at h; omega
    · have hi := nup_inex hn
      rw [if_pos rfl, Nat.add_mul, Nat.one_mul]
      rw [Nat.mul_comm] at hd
      generalize n / 2 ^ (bl n - 53) * 2 ^ (bl n - 53) = A at *
      generalize n % 2 ^ (bl n - 53) = r at *
      generalize 2 ^ (bl n - 53) = g at *
      refine ⟨fun h => (by rw [hi] at h; cases h), fun _ _ => by omega, fun _ h => (by cases h), by omega, by omega⟩

/-- A float's sign. -/
theorem ord_fd {e z : Int} (hf : Fits e z) (h2 : e + bl z.natAbs ≤ 1022) : FloatKind.f64.format.order (fd e z) 0 = some (if z = 0 then .eq else if z < 0 then .lt else .gt) := by
  by_cases h0 : z = 0
  · subst h0; rw [fd_zero]; rfl
  · have hn : z.natAbs ≠ 0 := by omega
    have hm := mf_bounds (Nat.pos_of_ne_zero hn)
    have f1 := hf.1
    have hb := bl_pos (Nat.pos_of_ne_zero hn)
    rw [fd_wd h0 hf, if_neg h0, ord_zero (by unfold rung; split <;> omega) (by unfold rung; split <;> omega)]
    by_cases hz : z < 0
    · rw [decide_eq_true hz, if_pos rfl, if_pos hz]
    · rw [decide_eq_false hz, if_neg Bool.false_ne_true, if_neg hz]
end Go.Proofs.YtonhpkigoplmaaaGreatDoor
