/-
  Sums and differences of floats that are whole numbers of one power of two.
-/
import Derived.Test.YtonhpkigoplmaaaGreatDoorSumM
namespace Go.Proofs.YtonhpkigoplmaaaGreatDoor
open Go.RowKit Go.Extern Ieee

/-- The float nearest to z * 2 ^ e. -/
def fd (e z : Int) : Nat := double.nearest (decide (z < 0)) z.natAbs e

/-- z * 2 ^ e is neither too small nor too great. -/
def Fits (e z : Int) : Prop := -1022 ≤ e ∧ e + bl z.natAbs ≤ 1023

/-- z * 2 ^ e is a float. -/
def Rep (z : Int) : Prop := inex z.natAbs = false

theorem fd_zero (e : Int) : fd e 0 = 0 := rfl

theorem nup_rep {n : Nat} (h : inex n = false) : nup n = false := by
  unfold inex at h
  unfold nup
  rw [decide_eq_false_iff_not] at h
  by_cases hb : 53 < bl n
  · have hz : n % 2 ^ (bl n - 53) = 0 := by
      apply Decidable.byContradiction
      intro hc
      exact h ⟨hb, hc⟩
    rw [hz]
    have hp := Nat.two_pow_pos (bl n - 53)
    have e1 : decide (2 ^ (bl n - 53) < 2 * 0) = false := decide_eq_false (by omega)
    have e2 : (2 ^ (bl n - 53) == 2 * 0) = false := by rw [beq_eq_false_iff_ne]; omega
    rw [e1, e2]; simp
  · rw [decide_eq_false hb, Bool.false_and]

theorem read_wd_norm {s : Bool} {T m : Nat} (h1 : 4503599627370496 ≤ m) (h2 : m < 9007199254740992) (hT : T ≤ 2044) : double.read (wd s (T * 4503599627370496 + m)) = .number s m ((T : Int) - 1074) := by
  have hsw : double.signWeight = 9223372036854775808 := rfl
  have hbn : double.binade = 4503599627370496 := rfl
  have hir : double.infRung = 9218868437227405312 := rfl
  have hlp : double.leastPlace = -1074 := rfl
  have hm : wd s (T * 4503599627370496 + m) % 9223372036854775808 = T * 4503599627370496 + m := by unfold wd; split <;> omega
  have hd : (wd s (T * 4503599627370496 + m) / 9223372036854775808 % 2 == 1) = s := by
    unfold wd
    cases s
    · rw [if_neg Bool.false_ne_true, show (T * 4503599627370496 + m + 0) / 9223372036854775808 % 2 = 0 by omega]; rfl
    · rw [if_pos rfl, show (T * 4503599627370496 + m + 9223372036854775808) / 9223372036854775808 % 2 = 1 by omega]; rfl
  unfold Format.read
  simp only [hsw, hbn, hir, hlp, hm, hd]
  rw [if_neg (by omega), if_pos (by omega)]
  congr 1
  · omega
  · omega

theorem fd_wd {e z : Int} (h0 : z ≠ 0) (hf : Fits e z) : fd e z = wd (decide (z < 0)) ((rung z.natAbs e + if nup z.natAbs then 1 else 0).toNat) := by
  have hn : z.natAbs ≠ 0 := by omega
  have hb := bl_pos (Nat.pos_of_ne_zero hn)
  have := hf.1
  have := hf.2
  unfold fd
  rw [nearest_rung _ hn (by omega) (by omega)]
  unfold wd
  cases decide (z < 0) <;> rfl

/-- A datum stands for z * 2 ^ e. -/
def Means (e z : Int) (s : Bool) (m : Nat) (p : Int) : Prop := ∀ c, c ≤ p → c ≤ e → sg s (m * 2 ^ (p - c).toNat) = z * ((2 ^ (e - c).toNat : Nat) : Int)

theorem read_fd {e z : Int} (hf : Fits e z) (hr : Rep z) : ∃ s m p, double.read (fd e z) = .number s m p ∧ Means e z s m p ∧ (z = 0 → s = false) ∧ (z ≠ 0 → s = decide (z < 0)) := by
  by_cases h0 : z = 0
  · subst h0
    refine ⟨false, 0, -1074, by rw [fd_zero]; rfl, ?_, fun _ => rfl, fun h => absurd rfl h⟩
    intro c _ _
    rw [Nat.zero_mul, Int.zero_mul]; rfl
  · have hn : z.natAbs ≠ 0 := by omega
    have hb := bl_pos (Nat.pos_of_ne_zero hn)
    have f1 := hf.1
    have f2 := hf.2
    obtain ⟨T, hT⟩ : ∃ T : Nat, e + bl z.natAbs + 1021 = (T : Int) := ⟨(e + bl z.natAbs + 1021).toNat, by omega⟩
    obtain ⟨m1, m2⟩ := mf_bounds (Nat.pos_of_ne_zero hn)
    have hfd : fd e z = wd (decide (z < 0)) (T * 4503599627370496 + mf z.natAbs) := by
      rw [fd_wd h0 hf, nup_rep hr]
      congr 1
      unfold rung
      rw [hT]
      have : (T : Int) * 4503599627370496 + (mf z.natAbs : Int) + (if false = true then 1 else 0) = ((T * 4503599627370496 + mf z.natAbs : Nat) : Int) := by
        rw [if_neg Bool.false_ne_true, Int.add_zero, Int.natCast_add, Int.natCast_mul]; rfl
      rw [this, Int.toNat_natCast]
    refine ⟨decide (z < 0), mf z.natAbs, (T : Int) - 1074, ?_, ?_, fun h => absurd h h0, fun _ => rfl⟩
    · rw [hfd]; exact read_wd_norm m1 m2 (by omega)
    · intro c hc1 hc2
      have hmag : mf z.natAbs * 2 ^ ((T : Int) - 1074 - c).toNat = z.natAbs * 2 ^ (e - c).toNat := by
        have hr' : inex z.natAbs = false := hr
        unfold inex at hr'
        rw [decide_eq_false_iff_not] at hr'
        unfold mf
        by_cases hb53 : bl z.natAbs ≤ 53
        · rw [if_pos hb53, Nat.mul_assoc, ← Nat.pow_add]; congr 2; omega
        · rw [if_neg hb53]
          have hz : z.natAbs % 2 ^ (bl z.natAbs - 53) = 0 := by
            apply Decidable.byContradiction
            intro hc
            exact hr' ⟨by omega, hc⟩
          have hd := Nat.div_add_mod z.natAbs (2 ^ (bl z.natAbs - 53))
          rw [hz, Nat.add_zero, Nat.mul_comm] at hd
          have : z.natAbs * 2 ^ (e - c).toNat = z.natAbs / 2 ^ (bl z.natAbs - 53) * 2 ^ (bl z.natAbs - 53) * 2 ^ (e - c).toNat := by rw [hd]
          rw [this, Nat.mul_assoc, ← Nat.pow_add]; congr 2; omega
      rw [hmag]
      unfold sg
      by_cases hz : z < 0
      · rw [decide_eq_true hz, if_pos rfl, Int.natCast_mul, show ((z.natAbs : Nat) : Int) = -z by omega, Int.neg_mul, Int.neg_neg]
      · rw [decide_eq_false hz, if_neg Bool.false_ne_true, Int.natCast_mul, show ((z.natAbs : Nat) : Int) = z by omega]

theorem Means.opp {e z : Int} {s : Bool} {m : Nat} {p : Int} (h : Means e z s m p) : Means e (-z) (!s) m p := by
  intro c h1 h2
  have := h c h1 h2
  rw [Int.neg_mul, ← this]
  unfold sg
  cases s
  · rfl
  · simp

theorem sg_natAbs {x : Int} {n : Nat} {s : Bool} (h : sg s n = x) : n = x.natAbs := by
  unfold sg at h
  cases s
  · rw [if_neg Bool.false_ne_true] at h; omega
  · rw [if_pos rfl] at h; omega

theorem sum_means {e x y : Int} {s t : Bool} {m n : Nat} {p q : Int} (hx : Means e x s m p) (hy : Means e y t n q) (hf : Fits e (x + y)) (hz : x + y = 0 → (s && t) = false) :
    (Datum.sum (.number s m p) (.number t n q)).map double.write = some (fd e (x + y)) := by
  simp only [Datum.sum, Option.map_some, Format.write, signed_eq]
  congr 1
  generalize hT : sg s (m * 2 ^ (p - min p q).toNat) + sg t (n * 2 ^ (q - min p q).toNat) = T
  have key : T * ((2 ^ (min p q - min (min p q) e).toNat : Nat) : Int) = (x + y) * ((2 ^ (e - min (min p q) e).toNat : Nat) : Int) := by
    have a := hx (min (min p q) e) (by omega) (by omega)
    have b := hy (min (min p q) e) (by omega) (by omega)
    rw [Int.add_mul, ← a, ← b, ← hT, Int.add_mul]
    have sgm : ∀ (s : Bool) (n k : Nat), sg s n * (k : Int) = sg s (n * k) := by
      intro s n k
      unfold sg
      cases s
      · rw [if_neg Bool.false_ne_true, if_neg Bool.false_ne_true, Int.natCast_mul]
      · rw [if_pos rfl, if_pos rfl, Int.natCast_mul, Int.neg_mul]
    rw [sgm, sgm, Nat.mul_assoc, Nat.mul_assoc, ← Nat.pow_add, ← Nat.pow_add]
    congr 4 <;> congr 1 <;> omega
  have hp1 : (0 : Int) < ((2 ^ (min p q - min (min p q) e).toNat : Nat) : Int) := by exact_mod_cast Nat.two_pow_pos _
  have hp2 : (0 : Int) < ((2 ^ (e - min (min p q) e).toNat : Nat) : Int) := by exact_mod_cast Nat.two_pow_pos _
  by_cases h0 : x + y = 0
  · have hT0 : T = 0 := by
      rw [h0, Int.zero_mul] at key
      rcases Int.mul_eq_zero.1 key with h | h
      · exact h
      · omega
    rw [if_pos hT0, hz h0, hT0, h0, fd_zero]
    rfl
  · have hT0 : T ≠ 0 := by
      rintro rfl
      rw [Int.zero_mul] at key
      rcases Int.mul_eq_zero.1 key.symm with h | h
      · exact h0 h
      · omega
    have hsgn : decide (T < 0) = decide (x + y < 0) := by
      apply decide_eq_decide.2
      constructor
      · intro h
        have : T * _ < 0 := Int.mul_neg_of_neg_of_pos h hp1
        rw [key] at this
        rcases (show x + y < 0 ∨ 0 ≤ x + y by omega) with h' | h'
        · exact h'
        · have := Int.mul_nonneg h' (Int.le_of_lt hp2); omega
      · intro h
        have : (x + y) * _ < 0 := Int.mul_neg_of_neg_of_pos h hp2
        rw [← key] at this
        rcases (show T < 0 ∨ 0 ≤ T by omega) with h' | h'
        · exact h'
        · have := Int.mul_nonneg h' (Int.le_of_lt hp1); omega
    rw [if_neg hT0, hsgn]
    unfold fd
    have hmag : (x + y).natAbs * 2 ^ (e - min (min p q) e).toNat = T.natAbs * 2 ^ (min p q - min (min p q) e).toNat := by
      have := congrArg Int.natAbs key
      rw [Int.natAbs_mul, Int.natAbs_mul, Int.natAbs_natCast, Int.natAbs_natCast] at this
      exact this.symm
    have hb := bl_pos (n := (x + y).natAbs) (by omega)
    have := hf.1
    have := hf.2
    exact (nearest_val _ (c := min (min p q) e) (by omega) (by omega) (by omega) (by omega) (by omega) hmag).symm

theorem add_fd {e x y : Int} (fx : Fits e x) (fy : Fits e y) (rx : Rep x) (ry : Rep y) (hf : Fits e (x + y)) : double.add (fd e x) (fd e y) = some (fd e (x + y)) := by
  obtain ⟨s, m, p, h1, h2, h3, h4⟩ := read_fd fx rx
  obtain ⟨t, n, q, g1, g2, g3, g4⟩ := read_fd fy ry
  unfold Format.add
  rw [h1, g1]
  refine sum_means h2 g2 hf ?_
  intro hz
  by_cases hx : x = 0
  · rw [h3 hx, Bool.false_and]
  · rw [h4 hx, g4 (by omega)]
    by_cases hx' : x < 0
    · rw [decide_eq_false (show ¬ y < 0 by omega), Bool.and_false]
    · rw [decide_eq_false hx', Bool.false_and]

theorem sub_fd {e x y : Int} (fx : Fits e x) (fy : Fits e y) (rx : Rep x) (ry : Rep y) (hf : Fits e (x - y)) : double.sub (fd e x) (fd e y) = some (fd e (x - y)) := by
  obtain ⟨s, m, p, h1, h2, h3, h4⟩ := read_fd fx rx
  obtain ⟨t, n, q, g1, g2, g3, g4⟩ := read_fd fy ry
  unfold Format.sub
  rw [h1, g1, Int.sub_eq_add_neg]
  refine sum_means h2 g2.opp (by rw [← Int.sub_eq_add_neg]; exact hf) ?_
  intro hz
  by_cases hx : x = 0
  · rw [h3 hx, Bool.false_and]
  · rw [h4 hx, g4 (by omega)]
    by_cases hx' : x < 0
    · rw [decide_eq_true (show y < 0 by omega), Bool.not_true, Bool.and_false]
    · rw [decide_eq_false hx', Bool.false_and]
end Go.Proofs.YtonhpkigoplmaaaGreatDoor
