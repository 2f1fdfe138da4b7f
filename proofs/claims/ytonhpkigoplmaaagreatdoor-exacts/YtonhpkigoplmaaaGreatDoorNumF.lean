/-
  encloseref.packed.
-/
import Derived.Test.YtonhpkigoplmaaaGreatDoorNatH
import Derived.Test.YtonhpkigoplmaaaGreatDoorNumE
namespace Go.Proofs.YtonhpkigoplmaaaGreatDoor
open Go.RowKit

/-- A number of 53 bits as a float. -/
def packN (s : Bool) (m : Nat) (e : Int) : Nat × Bool :=
  if e + 1075 < 123 ∨ 1923 < e + 1075 ∨ (e + 1075 = 1923 ∧ 4503599627370496 < m) then (0, false)
  else (m - 4503599627370496 + (e + 1075).toNat * 4503599627370496 + (if s then 9223372036854775808 else 0), true)

theorem three_digits {m : Nat} (h1 : 4503599627370496 ≤ m) (h2 : m < 9007199254740992) :
    ∃ m0 m1 m2, digits m = [m0, m1, m2] ∧ m = m0 + 16777216 * m1 + 281474976710656 * m2 ∧ m0 < 16777216 ∧ m1 < 16777216 ∧ m2 < 32 := by
  refine ⟨m % 16777216, m / 16777216 % 16777216, m / 281474976710656, ?_, by omega, by omega, by omega, by omega⟩
  have h := digits_of [m % 16777216, m / 16777216 % 16777216, m / 281474976710656] (by
    intro d hd
    simp at hd
    rcases hd with rfl | rfl | rfl <;> omega) (by simp [Canon]; omega)
  have e : nval [m % 16777216, m / 16777216 % 16777216, m / 281474976710656] = m := by simp only [nval]; omega
  rw [e] at h
  exact h

theorem ret_ub {a b : Int} {x y : Bool} (h1 : a = b) (h2 : x = y) : Ending.returned (.tuple #[.int .u64 a, .bool x]) = .returned (.tuple #[.int .u64 b, .bool y]) := by rw [h1, h2]

theorem pack_int {m m0 m1 m2 z : Nat} {e : Int} (hm : m = m0 + 16777216 * m1 + 281474976710656 * m2) (h1 : 4503599627370496 ≤ m) (he : 0 ≤ e + 1075) :
    (m0 : Int) + m1 * 16777216 + m2 * 16777216 * 16777216 - 4503599627370496 + (e + 1075) * 4503599627370496 + (z : Int) = ((m - 4503599627370496 + (e + 1075).toNat * 4503599627370496 + z : Nat) : Int) := by
  have e1 : ((m - 4503599627370496 : Nat) : Int) = (m : Int) - 4503599627370496 := by omega
  have e2 : (((e + 1075).toNat : Nat) : Int) = e + 1075 := Int.toNat_of_nonneg he
  have e3 : (m : Int) = (m0 : Int) + 16777216 * m1 + 281474976710656 * m2 := by omega
  generalize hk : m - 4503599627370496 = k at *
  generalize ht : (e + 1075).toNat = t at *
  have e4 : ((k + t * 4503599627370496 + z : Nat) : Int) = (k : Int) + (t : Int) * ((4503599627370496 : Nat) : Int) + (z : Int) := by
    rw [Int.natCast_add, Int.natCast_add, Int.natCast_mul]
  rw [e4, e1, e2, e3]
  have e5 : ((4503599627370496 : Nat) : Int) = 4503599627370496 := rfl
  rw [e5]
  generalize (e + 1075) * 4503599627370496 = q
  omega

theorem pack_top {m m0 m1 m2 : Nat} (hm : m = m0 + 16777216 * m1 + 281474976710656 * m2) (h1 : 4503599627370496 ≤ m) :
    (m0 : Int) + m1 * 16777216 + m2 * 16777216 * 16777216 - 4503599627370496 + 8660422083433463808 = ((m - 4503599627370496 + (848 + 1075 : Int).toNat * 4503599627370496 + 0 : Nat) : Int) := by
  have h := pack_int (z := 0) (e := 848) hm h1 (by decide)
  rw [← h, show ((848 : Int) + 1075) * 4503599627370496 = 8660422083433463808 by decide, show ((0 : Nat) : Int) = 0 by rfl, Int.add_zero]

theorem pack_top2 {m m0 m1 m2 : Nat} (hm : m = m0 + 16777216 * m1 + 281474976710656 * m2) (h1 : 4503599627370496 ≤ m) :
    (m0 : Int) + m1 * 16777216 + m2 * 16777216 * 16777216 - 4503599627370496 + 8660422083433463808 + 9223372036854775808 = ((m - 4503599627370496 + (848 + 1075 : Int).toNat * 4503599627370496 + 9223372036854775808 : Nat) : Int) := by
  have h := pack_int (z := 9223372036854775808) (e := 848) hm h1 (by decide)
  rw [← h, show ((848 : Int) + 1075) * 4503599627370496 = 8660422083433463808 by decide, show ((9223372036854775808 : Nat) : Int) = 9223372036854775808 by rfl]

theorem pack_mid {m m0 m1 m2 : Nat} {e : Int} (hm : m = m0 + 16777216 * m1 + 281474976710656 * m2) (h1 : 4503599627370496 ≤ m) (he : 0 ≤ e + 1075) :
    (m0 : Int) + m1 * 16777216 + m2 * 16777216 * 16777216 - 4503599627370496 + (e + 1075) * 4503599627370496 = ((m - 4503599627370496 + (e + 1075 : Int).toNat * 4503599627370496 + 0 : Nat) : Int) := by
  have h := pack_int (z := 0) hm h1 he
  rw [← h, show ((0 : Nat) : Int) = 0 by rfl, Int.add_zero]

theorem pack_mid2 {m m0 m1 m2 : Nat} {e : Int} (hm : m = m0 + 16777216 * m1 + 281474976710656 * m2) (h1 : 4503599627370496 ≤ m) (he : 0 ≤ e + 1075) :
    (m0 : Int) + m1 * 16777216 + m2 * 16777216 * 16777216 - 4503599627370496 + (e + 1075) * 4503599627370496 + 9223372036854775808 = ((m - 4503599627370496 + (e + 1075 : Int).toNat * 4503599627370496 + 9223372036854775808 : Nat) : Int) := by
  have h := pack_int (z := 9223372036854775808) hm h1 he
  rw [← h, show ((9223372036854775808 : Nat) : Int) = 9223372036854775808 by rfl]

set_option maxHeartbeats 1000000 in
set_option maxRecDepth 100000 in
theorem packed_any (s : Bool) (m : Nat) (e : Int) (va : Value) (w : World) (ha : NatV w va m) (h1 : 4503599627370496 ≤ m) (h2 : m < 9007199254740992) (he1 : -400000 ≤ e) (he2 : e ≤ 400000) :
    Calls Tryz.prog 163 #[.bool s, va, .int .i64 e] w fun ev w' => ev = .returned (.tuple #[.int .u64 ((packN s m e).1 : Int), .bool (packN s m e).2]) ∧ Below w.heap.size w w' := by
  obtain ⟨m0, m1, m2, hdg, hm, g0, g1, g2⟩ := three_digits h1 h2
  obtain ⟨ao, ca, rfl, hca, hcell⟩ := Dig.open ha
  rw [hdg] at hca hcell ⊢
  obtain ⟨b, off, rfl, hb, hc⟩ := hcell.resolve_left (by simp)
  have c0 := hc 0 (by simp)
  have c1 := hc 1 (by simp)
  have c2 := hc 2 (by simp)
  simp at c0 c1 c2
  have HP : Hid (packN s m e = if e + 1075 < 123 ∨ 1923 < e + 1075 ∨ (e + 1075 = 1923 ∧ 4503599627370496 < m) then (0, false) else (m - 4503599627370496 + (e + 1075).toNat * 4503599627370496 + (if s then 9223372036854775808 else 0), true)) := rfl
  have HM : Hid (m = m0 + 16777216 * m1 + 281474976710656 * m2) := hm
  have hlow : 4503599627370496 ≤ (m0 : Int) + 16777216 * m1 + 281474976710656 * m2 := by omega
  clear hc hcell hdg ha hm
  go_enter Tryz.func163, Tryz.ntmps163
  go_wp2_with fail
  go_quiet (fail)
  rcases (show e + 1075 < 123 ∨ 1923 < e + 1075 ∨ (e + 1075 = 1923 ∧ 4503599627370496 < m) ∨ (e + 1075 = 1923 ∧ ¬ 4503599627370496 < m) ∨ (123 ≤ e + 1075 ∧ e + 1075 < 1923) by omega) with g | g | ⟨g, g'⟩ | ⟨g, g'⟩ | ⟨g, g'⟩
  · have r : Hid (packN s m e = (0, false)) := by show _ = _; rw [HP.out, if_pos (Or.inl g)]
    go_wp2
    go_ret2
    exact ⟨by rw [r.out]; exact ret_ub rfl rfl, below_drewN (Below.refl _ _) _⟩
  · have r : Hid (packN s m e = (0, false)) := by show _ = _; rw [HP.out, if_pos (Or.inr (Or.inl g))]
    go_wp2
    go_ret2
    exact ⟨by rw [r.out]; exact ret_ub rfl rfl, below_drewN (Below.refl _ _) _⟩
  · have r : Hid (packN s m e = (0, false)) := by show _ = _; rw [HP.out, if_pos (Or.inr (Or.inr ⟨g, g'⟩))]
    have hf : (0 : Int) < (m0 : Int) + m1 * 16777216 + m2 * 16777216 * 16777216 - 4503599627370496 := by have := HM.out; omega
    have ge : e = 848 := by omega
    subst ge
    clear g
    go_wp2
    go_ret2
    exact ⟨by rw [r.out]; exact ret_ub rfl rfl, below_drewN (Below.refl _ _) _⟩
  · have r : Hid (packN s m e = (m - 4503599627370496 + (e + 1075).toNat * 4503599627370496 + (if s then 9223372036854775808 else 0), true)) := by show _ = _; rw [HP.out, if_neg (by omega)]
    have hf : (m0 : Int) + m1 * 16777216 + m2 * 16777216 * 16777216 - 4503599627370496 ≤ 0 := by have := HM.out; omega
    have ge : e = 848 := by omega
    subst ge
    clear g
    cases s
    all_goals
      go_wp2
      go_ret2
      refine ⟨?_, below_drewN (Below.refl _ _) _⟩
      rw [r.out]
      refine ret_ub ?_ rfl
      first | (rw [if_neg Bool.false_ne_true]; exact pack_top HM.out h1) | (rw [if_pos trivial]; exact pack_top2 HM.out h1)
  · have r : Hid (packN s m e = (m - 4503599627370496 + (e + 1075).toNat * 4503599627370496 + (if s then 9223372036854775808 else 0), true)) := by show _ = _; rw [HP.out, if_neg (by omega)]
    have t1 : (e + 1075 == 1923) = false := by rw [beq_eq_false_iff_ne]; omega
    cases s
    all_goals
      go_wp2
      go_ret2
      refine ⟨?_, below_drewN (Below.refl _ _) _⟩
      rw [r.out]
      refine ret_ub ?_ rfl
      first | (rw [if_neg Bool.false_ne_true]; exact pack_mid HM.out h1 (by omega)) | (rw [if_pos trivial]; exact pack_mid2 HM.out h1 (by omega))
end Go.Proofs.YtonhpkigoplmaaaGreatDoor
