/-
  encloseref.Plain.
-/
import Derived.Test.YtonhpkigoplmaaaGreatDoorNumD
import Derived.Laws.BitsAllLaws
namespace Go.Proofs.YtonhpkigoplmaaaGreatDoor
open Go.RowKit

/-- A float's number by its bits; none: it is not plain. -/
def plainN (b : Nat) : Option (Bool × Nat × Int) :=
  if b / 4503599627370496 % 2048 = 0 ∧ b % 4503599627370496 = 0 then some (false, 0, 0)
  else if b / 4503599627370496 % 2048 < 123 ∨ 1923 < b / 4503599627370496 % 2048 ∨ (b / 4503599627370496 % 2048 = 1923 ∧ 0 < b % 4503599627370496) then none
  else some (decide (b / 9223372036854775808 = 1), b % 4503599627370496 + 4503599627370496, ((b / 4503599627370496 % 2048 : Nat) : Int) - 1075)

theorem bits_expo (b : Nat) (hb : b < 18446744073709551616) : bits .and .u64 ((b : Int) / 4503599627370496) 2047 = ((b / 4503599627370496 % 2048 : Nat) : Int) := by
  have h := u64_and_nat (b / 4503599627370496) 2047 (by omega) (by decide)
  have e1 : ((b / 4503599627370496 : Nat) : Int) = (b : Int) / 4503599627370496 := by omega
  have e2 : ((2047 : Nat) : Int) = 2047 := rfl
  rw [e1, e2] at h
  rw [h]
  have : b / 4503599627370496 &&& 2047 = b / 4503599627370496 % 2048 := Nat.and_two_pow_sub_one_eq_mod _ 11
  rw [this]

theorem bits_frac (b : Nat) (hb : b < 18446744073709551616) : bits .and .u64 (b : Int) 4503599627370495 = ((b % 4503599627370496 : Nat) : Int) := by
  have h := u64_and_nat b 4503599627370495 hb (by decide)
  have e2 : ((4503599627370495 : Nat) : Int) = 4503599627370495 := rfl
  rw [e2] at h
  rw [h]
  have : b &&& 4503599627370495 = b % 4503599627370496 := Nat.and_two_pow_sub_one_eq_mod _ 52
  rw [this]

theorem sgn_bool (b : Nat) : ((b : Int) / 9223372036854775808 == 1) = decide (b / 9223372036854775808 = 1) := by
  rw [Bool.eq_iff_iff]; simp only [beq_iff_eq, decide_eq_true_eq]; omega

/-- What Plain hands back, as values. -/
def PlainR (b : Nat) (w : World) (ev : Ending) (w' : World) : Prop :=
  ∃ x, ev = .returned (.tuple #[x, .bool (plainN b).isSome]) ∧ NumV w' x ((plainN b).getD (false, 0, 0)).1 ((plainN b).getD (false, 0, 0)).2.1 ((plainN b).getD (false, 0, 0)).2.2 ∧ Below w.heap.size w w'

theorem plainR_zero {b : Nat} {w W : World} {ok : Bool} (h : plainN b = some (false, 0, 0) ∧ ok = true ∨ plainN b = none ∧ ok = false) (hW : Below w.heap.size w W) : PlainR b w (.returned (.tuple #[.agg #[.bool false, .slice none 0 0, .int .i64 0], .bool ok])) W := by
  rcases h with ⟨h, rfl⟩ | ⟨h, rfl⟩
  · exact ⟨_, by rw [h]; rfl, by rw [h]; exact ⟨_, _, _, rfl, rfl, NatV.zero W⟩, hW⟩
  · exact ⟨_, by rw [h]; rfl, by rw [h]; exact ⟨_, _, _, rfl, rfl, NatV.zero W⟩, hW⟩

set_option maxHeartbeats 400000 in
set_option maxRecDepth 100000 in
theorem plain_any (b : Nat) (w : World) (hb : b < 18446744073709551616) :
    Calls Tryz.prog 57 #[.int .u64 (b : Int)] w fun ev w' => PlainR b w ev w' := by
  have h1 := bits_expo b hb
  have h2 := bits_frac b hb
  have hn : Hid (plainN b = if b / 4503599627370496 % 2048 = 0 ∧ b % 4503599627370496 = 0 then some (false, 0, 0) else if b / 4503599627370496 % 2048 < 123 ∨ 1923 < b / 4503599627370496 % 2048 ∨ (b / 4503599627370496 % 2048 = 1923 ∧ 0 < b % 4503599627370496) then none else some (decide (b / 9223372036854775808 = 1), b % 4503599627370496 + 4503599627370496, ((b / 4503599627370496 % 2048 : Nat) : Int) - 1075)) := rfl
  have he : b / 4503599627370496 % 2048 < 2048 := by omega
  have hf : b % 4503599627370496 < 4503599627370496 := by omega
  have HB : Hid (b < 18446744073709551616) := hb
  clear hb
  generalize b / 4503599627370496 % 2048 = e at *
  generalize b % 4503599627370496 = f at *
  by_cases he0 : e = 0
  · subst he0
    by_cases hf0 : f = 0
    · subst hf0
      have r : Hid (plainN b = some (false, 0, 0)) := by show _ = _; rw [hn.out]; simp
      clear hn
      go_enter Tryz.func57, Tryz.ntmps57
      go_wp2
      refine bodyPost_ret (v := .tuple #[.agg #[.bool false, .slice none 0 0, .int .i64 0], .bool true]) (by simp [results, Tryz.results57, go_sem]) rfl ?_
      exact plainR_zero (Or.inl ⟨r.out, rfl⟩) ((Below.refl _ _).alloc (Nat.le_refl _) _)
    · have r : Hid (plainN b = none) := by show _ = _; rw [hn.out, if_neg (by omega), if_pos (by omega)]
      have t1 : ((f : Int) == 0) = false := by simp; omega
      clear hn
      go_enter Tryz.func57, Tryz.ntmps57
      go_wp2
      refine bodyPost_ret (v := .tuple #[.agg #[.bool false, .slice none 0 0, .int .i64 0], .bool false]) (by simp [results, Tryz.results57, go_sem]) rfl ?_
      exact plainR_zero (Or.inr ⟨r.out, rfl⟩) ((Below.refl _ _).alloc (Nat.le_refl _) _)
  · have t0 : ((e : Int) == 0) = false := by simp; omega
    rcases (show e < 123 ∨ 1923 < e ∨ (e = 1923 ∧ 0 < f) ∨ (e = 1923 ∧ f = 0) ∨ (123 ≤ e ∧ e < 1923) by omega) with g | g | ⟨g, g'⟩ | ⟨g, g'⟩ | ⟨g, g'⟩
    · have r : Hid (plainN b = none) := by show _ = _; rw [hn.out, if_neg (by omega), if_pos (by omega)]
      clear hn
      go_enter Tryz.func57, Tryz.ntmps57
      go_wp2
      refine bodyPost_ret (v := .tuple #[.agg #[.bool false, .slice none 0 0, .int .i64 0], .bool false]) (by simp [results, Tryz.results57, go_sem]) rfl ?_
      exact plainR_zero (Or.inr ⟨r.out, rfl⟩) ((Below.refl _ _).alloc (Nat.le_refl _) _)
    · have r : Hid (plainN b = none) := by show _ = _; rw [hn.out, if_neg (by omega), if_pos (by omega)]
      clear hn
      go_enter Tryz.func57, Tryz.ntmps57
      go_wp2
      refine bodyPost_ret (v := .tuple #[.agg #[.bool false, .slice none 0 0, .int .i64 0], .bool false]) (by simp [results, Tryz.results57, go_sem]) rfl ?_
      exact plainR_zero (Or.inr ⟨r.out, rfl⟩) ((Below.refl _ _).alloc (Nat.le_refl _) _)
    · have r : Hid (plainN b = none) := by show _ = _; rw [hn.out, if_neg (by omega), if_pos (by omega)]
      subst g
      clear hn
      go_enter Tryz.func57, Tryz.ntmps57
      go_wp2
      refine bodyPost_ret (v := .tuple #[.agg #[.bool false, .slice none 0 0, .int .i64 0], .bool false]) (by simp [results, Tryz.results57, go_sem]) rfl ?_
      exact plainR_zero (Or.inr ⟨r.out, rfl⟩) ((Below.refl _ _).alloc (Nat.le_refl _) _)
    · have r : Hid (plainN b = some (decide (b / 9223372036854775808 = 1), f + 4503599627370496, (e : Int) - 1075)) := by show _ = _; rw [hn.out, if_neg (by omega), if_neg (by omega)]
      subst g
      subst g'
      clear hn
      go_enter Tryz.func57, Tryz.ntmps57
      go_wp2_with fail
      skip
      refine (nat_any (4503599627370496) _ (by omega)).mono ?_
      rintro ev w1 ⟨v1, rfl, hN1, hb1⟩
      obtain ⟨ao1, la1, ca1, rfl, HL1⟩ := hN1.slice2
      have B0 := blk_below (blk_new w _) hb1
      have hbA : Below w.heap.size w w1 := ((Below.refl _ _).alloc (Nat.le_refl _) _).trans (hb1.mono (by simp))
      obtain ⟨k00, k01, k02, k03, k04, k05⟩ := blk3 B0
      have HBX : Hid (BoxT w1 w.heap.size 92) := BoxT.of B0
      have HN1 : Hid (NatV w1 _ _) := hN1
      clear B0 hb1 hN1
      go_wp2
      refine bodyPost_ret (v := .tuple #[.agg #[.bool ((b : Int) / 9223372036854775808 == 1), .slice ao1 la1 ca1, .int .i64 (848)], .bool true]) (by simp [results, Tryz.results57, go_sem, k00, k01, k02]) rfl ?_
      refine ⟨_, by rw [r.out]; rfl, ?_, ?_⟩
      · rw [r.out, sgn_bool]
        refine ⟨_, _, _, rfl, HL1.out, HN1.out.keeps ?_⟩
        repeat refine Keeps.set ?_ (t := 92) (by (repeat refine BoxT.set ?_); exact HBX.out) (by decide)
        exact Keeps.refl _
      · repeat refine Below.setCell ?_ (by simp) _
        exact hbA
    · have r : Hid (plainN b = some (decide (b / 9223372036854775808 = 1), f + 4503599627370496, (e : Int) - 1075)) := by show _ = _; rw [hn.out, if_neg (by omega), if_neg (by omega)]
      have t3 : ((e : Int) == 1923) = false := by simp; omega
      clear hn
      go_enter Tryz.func57, Tryz.ntmps57
      go_wp2_with fail
      rw [show (f : Int) + 4503599627370496 = ((f + 4503599627370496 : Nat) : Int) by omega]
      refine (nat_any (f + 4503599627370496) _ (by omega)).mono ?_
      rintro ev w1 ⟨v1, rfl, hN1, hb1⟩
      obtain ⟨ao1, la1, ca1, rfl, HL1⟩ := hN1.slice2
      have B0 := blk_below (blk_new w _) hb1
      have hbA : Below w.heap.size w w1 := ((Below.refl _ _).alloc (Nat.le_refl _) _).trans (hb1.mono (by simp))
      obtain ⟨k00, k01, k02, k03, k04, k05⟩ := blk3 B0
      have HBX : Hid (BoxT w1 w.heap.size 92) := BoxT.of B0
      have HN1 : Hid (NatV w1 _ _) := hN1
      clear B0 hb1 hN1
      go_wp2
      refine bodyPost_ret (v := .tuple #[.agg #[.bool ((b : Int) / 9223372036854775808 == 1), .slice ao1 la1 ca1, .int .i64 ((e : Int) - 1075)], .bool true]) (by simp [results, Tryz.results57, go_sem, k00, k01, k02]) rfl ?_
      refine ⟨_, by rw [r.out]; rfl, ?_, ?_⟩
      · rw [r.out, sgn_bool]
        refine ⟨_, _, _, rfl, HL1.out, HN1.out.keeps ?_⟩
        repeat refine Keeps.set ?_ (t := 92) (by (repeat refine BoxT.set ?_); exact HBX.out) (by decide)
        exact Keeps.refl _
      · repeat refine Below.setCell ?_ (by simp) _
        exact hbA
end Go.Proofs.YtonhpkigoplmaaaGreatDoor
