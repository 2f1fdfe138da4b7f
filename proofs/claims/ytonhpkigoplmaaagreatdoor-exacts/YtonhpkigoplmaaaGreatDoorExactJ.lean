/-
  Exact: the program's answer is the document's.
-/
import Derived.Test.YtonhpkigoplmaaaGreatDoorExactI
namespace Go.Proofs.YtonhpkigoplmaaaGreatDoor
open Go.RowKit Go.Extern Ieee

theorem whole_eq (y : Int) (h1 : -9223372036854775808 ≤ y) (h2 : y < 9223372036854775808) : aroundN (wholeN y) (wholeN y) = (wholeLo y, wholeHi y, 0) := by
  unfold aroundN wholeN wholeLo wholeHi
  simp only
  by_cases h0 : y = 0
  · subst h0; rfl
  · have hn : y.natAbs ≠ 0 := by omega
    have hb := bl_le (n := y.natAbs) (k := 64) (by have : (2 : Nat) ^ 64 = 18446744073709551616 := by decide
                                                   omega)
    have hbp := bl_pos (Nat.pos_of_ne_zero hn)
    have hm := mf_bounds (Nat.pos_of_ne_zero hn)
    rw [roundN_rung _ _ _ hn, roundN_rung _ _ _ hn, if_neg h0, if_neg h0]
    have key : ∀ c : Bool, rngW (decide (y < 0)) (rung y.natAbs 0 + if c = true then 1 else 0) = (wd (decide (y < 0)) (rung y.natAbs 0 + if c = true then 1 else 0).toNat, true) := by
      intro c
      unfold rngW
      have : 553942754166571008 ≤ (rung y.natAbs 0 + if c = true then 1 else 0) ∧ (rung y.natAbs 0 + if c = true then 1 else 0) ≤ 8660422083433463808 := by
        unfold rung
        split <;> omega
      rw [if_pos this]
      rfl
    rw [key, key]
    rfl

theorem round_plain {b : Nat} {s : Bool} {n : Nat} {e way : Int} (hb : b < 18446744073709551616) (h : plainN b = some (s, n, e)) : roundN s n e way = (posW b, true) := by
  unfold plainN at h
  split at h
  · rename_i h0
    simp only [Option.some.injEq, Prod.mk.injEq] at h
    obtain ⟨rfl, rfl, rfl⟩ := h
    have : posW b = 0 := by unfold posW; rw [if_pos (by omega)]
    rw [this]; rfl
  · rename_i h0
    split at h
    · cases h
    · rename_i h1
      simp only [Option.some.injEq, Prod.mk.injEq] at h
      obtain ⟨rfl, rfl, rfl⟩ := h
      have hp : posW b = b := by unfold posW; rw [if_neg (by omega)]
      have hb53 := bl53 (q := b % 4503599627370496 + 4503599627370496) (by omega) (by omega)
      unfold roundN mant
      rw [if_neg (by omega), hb53, if_pos (Nat.le_refl _), hp, Nat.sub_self, Nat.pow_zero, Nat.mul_one]
      simp only
      unfold packN
      rw [if_neg (by omega)]
      congr 1
      by_cases hs : b / 9223372036854775808 = 1
      · rw [decide_eq_true hs, if_pos rfl]; omega
      · rw [decide_eq_false hs, if_neg Bool.false_ne_true]; omega

theorem lessW_self (b : Nat) : lessW b b = false := by
  unfold lessW
  rw [lessN_eq, decide_eq_false_iff_not]
  exact Int.lt_irrefl _

theorem float_eq (b : Nat) (hb : b < 18446744073709551616) : (if (plainN b).isSome = true then aroundN ((plainN b).getD (false, 0, 0)) ((plainN b).getD (false, 0, 0)) else (0, 0, 1)) = makeN b b := by
  unfold makeN
  rw [lessW_self]
  cases h : plainN b
  · rfl
  · rename_i t
    obtain ⟨s, n, e⟩ := t
    simp only [Option.isSome_some, if_true, Option.getD_some]
    unfold aroundN
    simp only
    rw [round_plain hb h, round_plain hb h]
    rfl

/-- What the program gives is what the document gives. -/
theorem plainExact_any (A : Nat → Addr) (k x : Int) (w : World) (h1 : -9223372036854775808 ≤ x) (h2 : x < 9223372036854775808) (hS : Sents A w) :
    Calls Tryz.prog 32 #[.int .i64 k, .int .i64 x] w fun e w' => e = .returned (.tuple #[.agg #[.int .u64 ((refExactN k x).1 : Int), .int .u64 ((refExactN k x).2.1 : Int)], .int .i64 ((refExactN k x).2.2 : Int)]) ∧ Below w.heap.size w w' := by
  have hw : -9223372036854775808 ≤ wrap32 x ∧ wrap32 x < 9223372036854775808 := by unfold wrap32; omega
  by_cases a : k = 0 ∨ k = 2
  · rw [show refExactN k x = aroundN (wholeN x) (wholeN x) by unfold refExactN; rw [if_pos a], whole_eq x h1 h2]
    rcases a with rfl | rfl
    · exact plainExact_0 x w h1 h2
    · exact plainExact_2 x w h1 h2
  · by_cases b : k = 1 ∨ k = 4
    · rw [show refExactN k x = aroundN (wholeN (wrap32 x)) (wholeN (wrap32 x)) by unfold refExactN; rw [if_neg a, if_pos b], whole_eq _ hw.1 hw.2]
      rcases b with rfl | rfl
      · exact plainExact_1 x w
      · exact plainExact_4 x w
    · by_cases c : k = 3 ∨ k = 5
      · have hx : IntKind.u64.wrap x = (((x % 18446744073709551616).toNat : Nat) : Int) := by rw [IntKind.wrap_u64]; omega
        have hb : (x % 18446744073709551616).toNat < 18446744073709551616 := by omega
        rw [show refExactN k x = makeN (x % 18446744073709551616).toNat (x % 18446744073709551616).toNat by unfold refExactN; rw [if_neg a, if_neg b, if_pos c]; exact float_eq _ hb]
        rcases c with rfl | rfl
        · exact plainExact_3 A x _ w hx hb hS
        · exact plainExact_5 A x _ w hx hb hS
      · rw [show refExactN k x = (0, 0, 0) by unfold refExactN; rw [if_neg a, if_neg b, if_neg c]]
        exact plainExact_none k x w (by omega)
end Go.Proofs.YtonhpkigoplmaaaGreatDoor
