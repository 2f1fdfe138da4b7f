/-
  encloseref.size: how many bits.
-/
import Derived.Test.YtonhpkigoplmaaaGreatDoorNatF
namespace Go.Proofs.YtonhpkigoplmaaaGreatDoor
open Go.RowKit

/-- How many bits a number has. -/
def bl (n : Nat) : Nat := if n = 0 then 0 else n.log2 + 1

theorem bl_zero : bl 0 = 0 := rfl
theorem bl_bounds {n : Nat} (h : 0 < n) : 2 ^ (bl n - 1) ≤ n ∧ n < 2 ^ bl n ∧ 0 < bl n := by
  have hn : n ≠ 0 := by omega
  unfold bl
  rw [if_neg hn]
  exact ⟨by simpa using Nat.log2_self_le hn, Nat.lt_log2_self, by omega⟩

theorem bl_unique {n k : Nat} (h1 : 2 ^ k ≤ n) (h2 : n < 2 ^ (k + 1)) : bl n = k + 1 := by
  have hn : 0 < n := Nat.lt_of_lt_of_le (Nat.two_pow_pos k) h1
  obtain ⟨b1, b2, b3⟩ := bl_bounds hn
  have c1 : 2 ^ (bl n - 1) < 2 ^ (k + 1) := Nat.lt_of_le_of_lt b1 h2
  have c2 : 2 ^ k < 2 ^ bl n := Nat.lt_of_le_of_lt h1 b2
  have d1 := (Nat.pow_lt_pow_iff_right (by decide : 1 < 2)).1 c1
  have d2 := (Nat.pow_lt_pow_iff_right (by decide : 1 < 2)).1 c2
  omega

theorem bl_half {t : Nat} (h : 0 < t) : bl (t / 2) + 1 = bl t := by
  rcases Nat.lt_or_ge t 2 with h2 | h2
  · have : t = 1 := by omega
    subst this; rfl
  · obtain ⟨b1, b2, b3⟩ := bl_bounds (show 0 < t / 2 by omega)
    have e : bl (t / 2) = (bl (t / 2) - 1) + 1 := by omega
    have k1 : 2 ^ bl (t / 2) = 2 ^ (bl (t / 2) - 1) * 2 := by rw [← Nat.pow_succ]; congr 1
    have := bl_unique (n := t) (k := bl (t / 2)) (by omega) (by rw [Nat.pow_succ]; omega)
    omega

theorem bl_top {l : List Nat} {L : Nat} (hl : l.length = L + 1) (hd : ∀ d ∈ l, d < 16777216) (hpos : 0 < l.getD L 0) : bl (nval l) = 24 * L + bl (l.getD L 0) := by
  have hs := nval_split l L (by omega)
  have hdrop : l.drop (L + 1) = [] := List.drop_eq_nil_of_le (by omega)
  rw [hdrop] at hs
  simp only [nval, Nat.mul_zero, Nat.add_zero] at hs
  have hlow := nval_lt (l.take L) (fun d hm => hd d (List.mem_of_mem_take hm))
  have hll : (l.take L).length = L := by simp; omega
  rw [hll] at hlow
  have e24 : (16777216 : Nat) = 2 ^ 24 := rfl
  rw [e24, ← Nat.pow_mul] at hs hlow
  obtain ⟨b1, b2, b3⟩ := bl_bounds hpos
  generalize l.getD L 0 = d at *
  have h1 : 2 ^ (24 * L) * 2 ^ (bl d - 1) ≤ 2 ^ (24 * L) * d := Nat.mul_le_mul_left _ b1
  have h2 : 2 ^ (24 * L) * (d + 1) ≤ 2 ^ (24 * L) * 2 ^ bl d := Nat.mul_le_mul_left _ b2
  rw [← Nat.pow_add] at h1 h2
  rw [Nat.mul_add, Nat.mul_one] at h2
  have := bl_unique (n := nval l) (k := 24 * L + (bl d - 1)) (by omega) (by
    rw [show 24 * L + (bl d - 1) + 1 = 24 * L + bl d by omega]; omega)
  omega

set_option maxRecDepth 100000 in
theorem size_any (a : Nat) (va : Value) (w : World) (ha : NatV w va a) (hla : (digits a).length ≤ 1000000) :
    Calls Tryz.prog 161 #[va] w fun e w' => e = .returned (.int .i64 (bl a : Int)) ∧ w' = w := by
  obtain ⟨ao, ca, rfl, hca, hcell⟩ := Dig.open ha
  by_cases h0 : a = 0
  · subst h0
    rw [digits_zero]
    clear hcell ha hla hca
    go_enter Tryz.func161, Tryz.ntmps161
    go_wp2
    go_ret
    exact ⟨rfl, rfl⟩
  · have hne : (digits a).length ≠ 0 := fun e => h0 ((digits_nil_iff a).1 (List.length_eq_zero_iff.1 e))
    obtain ⟨b, off, rfl, hbl, hc⟩ := hcell.resolve_left hne
    obtain ⟨L, hL⟩ : ∃ L, (digits a).length = L + 1 := ⟨(digits a).length - 1, by omega⟩
    have hlast := canon_last (canon_digits a) hL
    have htop := bl_top hL (digits_lt a) (by omega)
    rw [nval_digits] at htop
    have hcl := hc L (by omega)
    have hdl := getD_lt (digits_lt a) L
    rw [hL] at hla hca ⊢
    clear hc ha hL hne
    generalize (digits a).getD L 0 = d at *
    have HT : Hid (bl a = 24 * L + bl d) := htop
    have t0 : (((L + 1 : Nat) : Int) == 0) = false := by simp; omega
    clear htop
    go_enter Tryz.func161, Tryz.ntmps161
    go_wp2
    go_loop [3, 4] (fun v3 v4 => ∃ t j : Nat, t ≤ d ∧ v4 = .int .i64 (t : Int) ∧ v3 = .int .i64 ((24 * L + j : Nat) : Int) ∧ bl t + j = bl d ∧ j ≤ 30) (fun _ v4 => (intOf v4).toNat)
    case atStart =>
      refine ⟨d, 0, Nat.le_refl _, rfl, by go_num, by omega, by omega⟩
    case round =>
      obtain ⟨t, j, ht, rfl, rfl, hb, hj⟩ := hrel
      have HB : Hid (bl t + j = bl d) := hb
      clear hb
      by_cases htp : 0 < t
      · have hj2 : j + 1 ≤ 30 := by
          have h1 := HB.out
          obtain ⟨b1, b2, b3⟩ := bl_bounds (show 0 < d by omega)
          have : 2 ^ (bl d - 1) < 2 ^ 24 := Nat.lt_of_le_of_lt b1 hdl
          have := (Nat.pow_lt_pow_iff_right (by decide : 1 < 2)).1 this
          obtain ⟨_, _, c3⟩ := bl_bounds htp
          omega
        go_wp2
        go_round
        case rel => exact ⟨t / 2, j + 1, by omega, by go_num, by go_num, by have := bl_half htp; have := HB.out; omega, hj2⟩
        case measure => simp [intOf]; omega
      · have ht0 : t = 0 := by omega
        subst ht0
        go_wp2
        go_ret
        have := HB.out
        rw [bl_zero] at this
        rw [HT.out, show 24 * L + bl d = 24 * L + j by omega]
        exact ⟨rfl, rfl⟩
end Go.Proofs.YtonhpkigoplmaaaGreatDoor
