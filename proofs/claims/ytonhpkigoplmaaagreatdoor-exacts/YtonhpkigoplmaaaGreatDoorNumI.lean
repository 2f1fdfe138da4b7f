/-
  encloseref.whole, encloseref.Exact.
-/
import Derived.Test.YtonhpkigoplmaaaGreatDoorNumH
namespace Go.Proofs.YtonhpkigoplmaaaGreatDoor
open Go.RowKit

/-- A whole number. -/
def wholeN (n : Int) : Bool × Nat × Int := (decide (n < 0), n.natAbs, 0)

set_option maxHeartbeats 400000 in
theorem whole_any (n : Int) (w : World) (h1 : -9223372036854775808 ≤ n) (h2 : n < 9223372036854775808) :
    Calls Tryz.prog 78 #[.int .i64 n] w fun e w' => ∃ x, e = .returned x ∧ NumT w' x (wholeN n) ∧ Below w.heap.size w w' := by
  by_cases hn : 0 ≤ n
  · obtain ⟨m, rfl⟩ := Int.eq_ofNat_of_zero_le hn
    have HE : Hid (wholeN (m : Int) = (false, m, 0)) := by show _ = _; unfold wholeN; rw [decide_eq_false (by omega)]; rfl
    clear hn
    go_enter Tryz.func78, Tryz.ntmps78
    go_wp2_with fail
    refine (nat_any m _ (by omega)).mono ?_
    rintro ev w1 ⟨v1, rfl, hN1, hb1⟩
    obtain ⟨ao1, la1, ca1, rfl, HL1⟩ := hN1.slice2
    have B0 := blk_below (blk_new w _) hb1
    have HbA : Hid (Below w.heap.size w w1) := ((Below.refl _ _).alloc (Nat.le_refl _) _).trans (hb1.mono (by simp))
    obtain ⟨k00, k01, k02, k03, k04, k05⟩ := blk3 B0
    have HBX : Hid (BoxT w1 w.heap.size 92) := BoxT.of B0
    have HN1 : Hid (NatV w1 _ _) := hN1
    clear B0 hb1 hN1
    go_wp2
    refine bodyPost_ret (v := .agg #[.bool false, .slice ao1 la1 ca1, .int .i64 0]) (by simp [results, Tryz.results78, go_sem, k00, k01, k02]) rfl ?_
    refine ⟨_, rfl, ?_, ?_⟩
    · rw [HE.out]
      refine ⟨_, _, _, rfl, HL1.out, HN1.out.keeps ?_⟩
      repeat refine Keeps.set ?_ (t := 92) (by (repeat refine BoxT.set ?_); exact HBX.out) (by decide)
      exact Keeps.refl _
    · repeat refine Below.setCell ?_ (by simp) _
      exact HbA.out
  · obtain ⟨m, hm⟩ : ∃ m : Nat, -(n + 1) = (m : Int) := ⟨(-n - 1).toNat, by omega⟩
    have HE : Hid (wholeN n = (true, m + 1, 0)) := by show _ = _; unfold wholeN; rw [decide_eq_true (by omega), show n.natAbs = m + 1 by omega]
    have HM : Hid (m < 9223372036854775808) := by show _ < _; omega
    have hn : n < 0 := by omega
    go_enter Tryz.func78, Tryz.ntmps78
    go_wp2_with fail
    refine (nat_any m _ HM.out).mono ?_
    rintro ev w1 ⟨v1, rfl, hN1, hb1⟩
    obtain ⟨ao1, la1, ca1, rfl, HL1⟩ := hN1.slice2
    have B0 := blk_below (blk_new w _) hb1
    have hbA : Below w.heap.size w w1 := ((Below.refl _ _).alloc (Nat.le_refl _) _).trans (hb1.mono (by simp))
    have hlm : (digits m).length ≤ 1000000 := by have := len_of_lt2 (n := m) (k := 63) (by have := HM.out; omega); omega
    have HLM : Hid ((digits m).length ≤ 1000000) := hlm
    have HN1 : Hid (NatV w1 _ _) := hN1
    have HB0 : Hid (w1.heap[w.heap.size]? = _) := B0
    have HbA : Hid (Below w.heap.size w w1) := hbA
    clear B0 hb1 hN1 hbA hlm
    go_wp2_with fail
    refine (nat_any 1 _ (by omega)).mono ?_
    rintro ev w2 ⟨v2, rfl, hN2, hb2⟩
    obtain ⟨ao2, la2, ca2, rfl, HL2⟩ := hN2.slice2
    have HN2 : Hid (NatV w2 _ 1) := hN2
    have HBa : Hid (Below _ w1 w2) := hb2
    clear hb2 hN2
    go_wp2_with fail
    refine (plus_any m 1 _ _ _ (HN1.out.below HBa.out (Nat.le_refl _)) HN2.out HLM.out (by decide)).mono ?_
    rintro ev w3 ⟨v3, rfl, hN3, hb3⟩
    obtain ⟨ao3, la3, ca3, rfl, HL3⟩ := hN3.slice2
    have B3 := blk_below (blk_below HB0.out HBa.out) hb3
    have HbB : Hid (Below w.heap.size w w3) := (HbA.out.trans (HBa.out.mono HbA.out.size)).trans (hb3.mono (HbA.out.trans (HBa.out.mono HbA.out.size)).size)
    obtain ⟨k00, k01, k02, k03, k04, k05⟩ := blk3 B3
    have HBX : Hid (BoxT w3 w.heap.size 92) := BoxT.of B3
    have HN3 : Hid (NatV w3 _ _) := hN3
    clear B3 hb3 hN3 HB0
    go_wp2
    refine bodyPost_ret (v := .agg #[.bool true, .slice ao3 la3 ca3, .int .i64 0]) (by simp [results, Tryz.results78, go_sem, k00, k01, k02]) rfl ?_
    refine ⟨_, rfl, ?_, ?_⟩
    · rw [HE.out]
      refine ⟨_, _, _, rfl, HL3.out, HN3.out.keeps ?_⟩
      repeat refine Keeps.set ?_ (t := 92) (by (repeat refine BoxT.set ?_); exact HBX.out) (by decide)
      exact Keeps.refl _
    · repeat refine Below.setCell ?_ (by simp) _
      exact HbB.out

/-- What Exact gives. -/
def refExactN (k x : Int) : Nat × Nat × Nat :=
  if k = 0 ∨ k = 2 then aroundN (wholeN x) (wholeN x)
  else if k = 1 ∨ k = 4 then aroundN (wholeN (wrap32 x)) (wholeN (wrap32 x))
  else if k = 3 ∨ k = 5 then
    (if (plainN (x % 18446744073709551616).toNat).isSome = true then aroundN ((plainN (x % 18446744073709551616).toNat).getD (false, 0, 0)) ((plainN (x % 18446744073709551616).toNat).getD (false, 0, 0)) else (0, 0, 1))
  else (0, 0, 0)

theorem bl_le {n k : Nat} (h : n < 2 ^ k) : bl n ≤ k := by
  rcases Nat.eq_zero_or_pos n with h0 | h0
  · subst h0; rw [bl_zero]; omega
  · obtain ⟨b1, b2, b3⟩ := bl_bounds h0
    have := (Nat.pow_lt_pow_iff_right (by decide : 1 < 2)).1 (Nat.lt_of_le_of_lt b1 h)
    omega

theorem whole_small {n : Int} (h1 : -9223372036854775808 ≤ n) (h2 : n < 9223372036854775808) : Small (wholeN n) := by
  refine ⟨?_, by simp [wholeN], by simp [wholeN]⟩
  have := bl_le (n := n.natAbs) (k := 64) (by omega)
  simp only [wholeN]
  omega

theorem plain_small (b : Nat) : Small ((plainN b).getD (false, 0, 0)) := by
  unfold plainN
  split
  · simp [Small, bl_zero]
  · split
    · simp [Small, bl_zero]
    · simp only [Option.getD_some, Small]
      have := bl_le (n := b % 4503599627370496 + 4503599627370496) (k := 54) (by omega)
      omega

set_option maxHeartbeats 400000 in
theorem refExact_whole (k x y : Int) (w : World) (hk : (k = 0 ∨ k = 2) ∧ y = x ∨ (k = 1 ∨ k = 4) ∧ y = wrap32 x) (h1 : -9223372036854775808 ≤ x) (h2 : x < 9223372036854775808) :
    Calls Tryz.prog 33 #[.int .i64 k, .int .i64 x] w fun e w' => e = .returned (.tuple #[.agg #[.int .u64 ((aroundN (wholeN y) (wholeN y)).1 : Int), .int .u64 ((aroundN (wholeN y) (wholeN y)).2.1 : Int)], .int .i64 ((aroundN (wholeN y) (wholeN y)).2.2 : Int)]) ∧ Below w.heap.size w w' := by
  have hy : -9223372036854775808 ≤ y ∧ y < 9223372036854775808 := by
    rcases hk with ⟨-, rfl⟩ | ⟨-, rfl⟩
    · exact ⟨h1, h2⟩
    · unfold wrap32; omega
  have HY : Hid (-9223372036854775808 ≤ y ∧ y < 9223372036854775808) := hy
  have HX : Hid (-9223372036854775808 ≤ x ∧ x < 9223372036854775808) := ⟨h1, h2⟩
  have hwy : wrap64 y = y := by unfold wrap64; omega
  have HWY : Hid (wrap64 y = y) := hwy
  clear hy h1 h2 hwy
  rcases hk with ⟨hk | hk, hyx⟩ | ⟨hk | hk, hyx⟩
  all_goals
    subst hk
    have HYX : Hid (y = _) := hyx
    clear hyx
    go_enter Tryz.func33, Tryz.ntmps33
    go_wp2_with fail
    try rw [← HYX.out]
    try rw [HWY.out]
    refine (whole_any y _ HY.out.1 HY.out.2).mono ?_
    rintro ev w1 ⟨x1, rfl, hX1, hb1⟩
    have hA : Below w.heap.size w w1 := ((Below.refl _ _).alloc (Nat.le_refl _) _).trans (hb1.mono (by simp))
    have HB0 : Hid (w1.heap[w.heap.size]? = _) := blk_below (blk_new w _) hb1
    obtain ⟨ao1, la1, ca1, rfl, hl1, hN1⟩ := hX1
    have HX1 : Hid (la1 = (digits (wholeN y).2.1).length ∧ NatV w1 (.slice ao1 la1 ca1) (wholeN y).2.1) := ⟨hl1, hN1⟩
    have HA : Hid (Below w.heap.size w w1) := hA
    clear hA hb1 hl1 hN1
    go_wp2_with fail
    have hAl : Below w1.heap.size w1 (w1.alloc (Obj.cells #[Value.bool (wholeN y).1, Value.slice ao1 la1 ca1, Value.int IntKind.i64 (wholeN y).2.2] 92)) := (Below.refl _ _).alloc (Nat.le_refl _) _
    have HNT : Hid (NumT (w1.alloc (Obj.cells #[Value.bool (wholeN y).1, Value.slice ao1 la1 ca1, Value.int IntKind.i64 (wholeN y).2.2] 92)) (.agg #[.bool (wholeN y).1, .slice ao1 la1 ca1, .int .i64 (wholeN y).2.2]) (wholeN y)) := ⟨_, _, _, rfl, HX1.out.1, HX1.out.2.below hAl (Nat.le_refl _)⟩
    refine (around_any _ _ (wholeN y) (wholeN y) _ HNT.out HNT.out (whole_small HY.out.1 HY.out.2) (whole_small HY.out.1 HY.out.2)).mono ?_
    rintro ev w2 ⟨rfl, hb2⟩
    have HB2 : Hid (Below w.heap.size w w2) := (HA.out.trans (hAl.mono HA.out.size)).trans (hb2.mono (HA.out.trans (hAl.mono HA.out.size)).size)
    obtain ⟨j0, j1, j2, j3⟩ := blk2 (blk_below (blk_below HB0.out hAl) hb2)
    clear hb2 hAl HNT HA HX1 HB0
    go_wp2
    refine bodyPost_ret (v := .tuple #[.agg #[.int .u64 ((aroundN (wholeN y) (wholeN y)).1 : Int), .int .u64 ((aroundN (wholeN y) (wholeN y)).2.1 : Int)], .int .i64 ((aroundN (wholeN y) (wholeN y)).2.2 : Int)]) (by simp [results, Tryz.results33, go_sem, j0, j1]) rfl ?_
    exact ⟨rfl, (HB2.out.setCell (by simp) _).setCell (by simp) _⟩

set_option maxHeartbeats 400000 in
theorem refExact_float (k x : Int) (w : World) (hk : k = 3 ∨ k = 5) :
    Calls Tryz.prog 33 #[.int .i64 k, .int .i64 x] w fun e w' => e = .returned (.tuple #[.agg #[.int .u64 ((refExactN k x).1 : Int), .int .u64 ((refExactN k x).2.1 : Int)], .int .i64 ((refExactN k x).2.2 : Int)]) ∧ Below w.heap.size w w' := by
  have HRE : Hid (refExactN k x = if (plainN (x % 18446744073709551616).toNat).isSome = true then aroundN ((plainN (x % 18446744073709551616).toNat).getD (false, 0, 0)) ((plainN (x % 18446744073709551616).toNat).getD (false, 0, 0)) else (0, 0, 1)) := by
    show _ = _
    unfold refExactN
    rw [if_neg (by omega), if_neg (by omega), if_pos hk]
  have HX : Hid (IntKind.u64.wrap x = (((x % 18446744073709551616).toNat : Nat) : Int)) := by
    show _ = _
    rw [show IntKind.u64.wrap x = x % 18446744073709551616 by unfold IntKind.wrap; rw [if_neg (by simp [IntKind.signed])]; rfl]
    omega
  have HB : Hid ((x % 18446744073709551616).toNat < 18446744073709551616) := by show _ < _; omega
  generalize (x % 18446744073709551616).toNat = b at *
  obtain ⟨R, hR⟩ : ∃ R, refExactN k x = R := ⟨_, rfl⟩
  rw [hR] at HRE ⊢
  clear hR
  rcases hk with rfl | rfl
  all_goals
    go_enter Tryz.func33, Tryz.ntmps33
    go_wp2_with fail
    rw [HX.out]
    refine (plain_any b _ HB.out).mono ?_
    rintro e w1 ⟨x1, rfl, hX1, hb1⟩
    have hA : Below w.heap.size w w1 := ((Below.refl _ _).alloc (Nat.le_refl _) _).trans (hb1.mono (by simp))
    have B0 := blk_below (blk_new w _) hb1
    have hsm := plain_small b
    generalize (plainN b).getD (false, 0, 0) = X1 at *
    generalize (plainN b).isSome = ok1 at *
    obtain ⟨s1, n1, e1⟩ := X1
    obtain ⟨ao1, la1, ca1, rfl, hl1, hN1⟩ := hX1
    simp only at hl1 hN1
    have HX1 : Hid (la1 = (digits n1).length ∧ NatV w1 (.slice ao1 la1 ca1) n1) := ⟨hl1, hN1⟩
    have HSM : Hid (Small (s1, n1, e1)) := hsm
    have HA : Hid (Below w.heap.size w w1) := hA
    obtain ⟨j0, j1, j2, j3⟩ := blk2 B0
    have HB0 : Hid (w1.heap[w.heap.size]? = _) := B0
    have hz : w.heap.size < w1.heap.size := (Array.getElem?_eq_some_iff.1 B0).1
    clear hA hb1 hl1 hN1 hsm B0
    cases ok1
    · have r : Hid (R = (0, 0, 1)) := by show _ = _; rw [HRE.out, if_neg (by simp)]
      clear HRE
      go_wp2
      obtain ⟨c10, c11, -, -⟩ := blk2 (blk_old (blk_store2 (a := .int .u64 0) (b := .int .u64 0) HB0.out) (Obj.cells #[Value.bool s1, Value.slice ao1 la1 ca1, Value.int IntKind.i64 e1] 92))
      refine bodyPost_ret (v := .tuple #[.agg #[.int .u64 0, .int .u64 0], .int .i64 1]) (by simp [results, Tryz.results33, go_sem, c10, c11]) rfl ?_
      rw [r.out]
      exact ⟨rfl, ((HA.out.setCell (by simp) _).setCell (by simp) _).alloc (by have := HA.out.size; simpa using this) _⟩
    · have r : Hid (R = aroundN (s1, n1, e1) (s1, n1, e1)) := by show _ = _; rw [HRE.out, if_pos rfl]
      clear HRE
      go_wp2_with fail
      have hAl : Below w1.heap.size w1 (w1.alloc (Obj.cells #[Value.bool s1, Value.slice ao1 la1 ca1, Value.int IntKind.i64 e1] 92)) := (Below.refl _ _).alloc (Nat.le_refl _) _
      have HNT : Hid (NumT (w1.alloc (Obj.cells #[Value.bool s1, Value.slice ao1 la1 ca1, Value.int IntKind.i64 e1] 92)) (.agg #[.bool s1, .slice ao1 la1 ca1, .int .i64 e1]) (s1, n1, e1)) := ⟨_, _, _, rfl, HX1.out.1, HX1.out.2.below hAl (Nat.le_refl _)⟩
      refine (around_any _ _ (s1, n1, e1) (s1, n1, e1) _ HNT.out HNT.out HSM.out HSM.out).mono ?_
      rintro ev w2 ⟨rfl, hb2⟩
      have HB2 : Hid (Below w.heap.size w w2) := (HA.out.trans (hAl.mono HA.out.size)).trans (hb2.mono (HA.out.trans (hAl.mono HA.out.size)).size)
      clear j0 j1 j2 j3
      obtain ⟨j0, j1, j2, j3⟩ := blk2 (blk_below (blk_below HB0.out hAl) hb2)
      clear hb2 hAl HNT HA HX1 HB0 hz
      go_wp2
      refine bodyPost_ret (v := .tuple #[.agg #[.int .u64 ((aroundN (s1, n1, e1) (s1, n1, e1)).1 : Int), .int .u64 ((aroundN (s1, n1, e1) (s1, n1, e1)).2.1 : Int)], .int .i64 ((aroundN (s1, n1, e1) (s1, n1, e1)).2.2 : Int)]) (by simp [results, Tryz.results33, go_sem, j0, j1]) rfl ?_
      rw [r.out]
      exact ⟨rfl, (HB2.out.setCell (by simp) _).setCell (by simp) _⟩

set_option maxHeartbeats 400000 in
theorem refExact_none (k x : Int) (w : World) (hk : k ≠ 0 ∧ k ≠ 1 ∧ k ≠ 2 ∧ k ≠ 3 ∧ k ≠ 4 ∧ k ≠ 5) :
    Calls Tryz.prog 33 #[.int .i64 k, .int .i64 x] w fun e w' => e = .returned (.tuple #[.agg #[.int .u64 0, .int .u64 0], .int .i64 0]) ∧ Below w.heap.size w w' := by
  obtain ⟨h0, h1, h2, h3, h4, h5⟩ := hk
  have t0 : (k == 0) = false := by rw [beq_eq_false_iff_ne]; exact h0
  have t1 : (k == 1) = false := by rw [beq_eq_false_iff_ne]; exact h1
  have t2 : (k == 2) = false := by rw [beq_eq_false_iff_ne]; exact h2
  have t3 : (k == 3) = false := by rw [beq_eq_false_iff_ne]; exact h3
  have t4 : (k == 4) = false := by rw [beq_eq_false_iff_ne]; exact h4
  have t5 : (k == 5) = false := by rw [beq_eq_false_iff_ne]; exact h5
  clear h0 h1 h2 h3 h4 h5
  go_enter Tryz.func33, Tryz.ntmps33
  go_wp2
  refine bodyPost_ret (v := .tuple #[.agg #[.int .u64 0, .int .u64 0], .int .i64 0]) (by simp [results, Tryz.results33, go_sem]) rfl ?_
  exact ⟨rfl, by (repeat refine Below.setCell ?_ (by simp) _); exact (Below.refl _ _).alloc (Nat.le_refl _) _⟩

theorem refExact_any (k x : Int) (w : World) (h1 : -9223372036854775808 ≤ x) (h2 : x < 9223372036854775808) :
    Calls Tryz.prog 33 #[.int .i64 k, .int .i64 x] w fun e w' => e = .returned (.tuple #[.agg #[.int .u64 ((refExactN k x).1 : Int), .int .u64 ((refExactN k x).2.1 : Int)], .int .i64 ((refExactN k x).2.2 : Int)]) ∧ Below w.heap.size w w' := by
  by_cases a : k = 0 ∨ k = 2
  · rw [show refExactN k x = aroundN (wholeN x) (wholeN x) by unfold refExactN; rw [if_pos a]]
    exact refExact_whole k x x w (Or.inl ⟨a, rfl⟩) h1 h2
  · by_cases b : k = 1 ∨ k = 4
    · rw [show refExactN k x = aroundN (wholeN (wrap32 x)) (wholeN (wrap32 x)) by unfold refExactN; rw [if_neg a, if_pos b]]
      exact refExact_whole k x _ w (Or.inr ⟨b, rfl⟩) h1 h2
    · by_cases c : k = 3 ∨ k = 5
      · exact refExact_float k x w c
      · rw [show refExactN k x = (0, 0, 0) by unfold refExactN; rw [if_neg a, if_neg b, if_neg c]]
        exact refExact_none k x w (by omega)
end Go.Proofs.YtonhpkigoplmaaaGreatDoor
