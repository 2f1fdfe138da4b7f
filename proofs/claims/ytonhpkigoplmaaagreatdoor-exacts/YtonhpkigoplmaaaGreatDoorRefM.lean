/-
  encloseref.positive, encloseref.Make.
-/
import Derived.Test.YtonhpkigoplmaaaGreatDoorFltC
namespace Go.Proofs.YtonhpkigoplmaaaGreatDoor
open Go.RowKit

theorem posW_eq {b : Nat} (hb : b < 18446744073709551616) : posW b = if b = 9223372036854775808 then 0 else b := by
  unfold posW; split <;> split <;> omega

theorem positive_any (b : Nat) (w : World) (hb : b < 18446744073709551616) : Calls Tryz.prog 59 #[.int .u64 (b : Int)] w fun e w' => e = .returned (.int .u64 (posW b : Int)) ∧ w' = w := by
  rw [posW_eq hb]
  clear hb
  by_cases h : b = 9223372036854775808
  · subst h
    rw [if_pos rfl]
    go_enter Tryz.func59, Tryz.ntmps59
    go_wp2
    go_ret
    exact ⟨rfl, rfl⟩
  · rw [if_neg h]
    have h1 : ((b : Int) == 9223372036854775808) = false := by simp; omega
    clear h
    go_enter Tryz.func59, Tryz.ntmps59
    go_wp2
    go_ret
    exact ⟨rfl, rfl⟩

theorem plainN_bounds {b : Nat} (x : Bool × Nat × Int) (h : x = (plainN b).getD (false, 0, 0)) : (digits x.2.1).length ≤ 400000 ∧ -400000 ≤ x.2.2 ∧ x.2.2 ≤ 400000 := by
  have hz : (digits 0).length = 0 := rfl
  subst h
  unfold plainN
  split
  · simp [hz]
  · split
    · simp [hz]
    · rename_i h1 h2
      simp only [Option.getD_some]
      have := len_of_lt2 (n := b % 4503599627370496 + 4503599627370496) (k := 54) (by omega)
      omega

set_option maxHeartbeats 400000 in
theorem refMake_any (lo hi : Nat) (w : World) (h1 : lo < 18446744073709551616) (h2 : hi < 18446744073709551616) :
    Calls Tryz.prog 27 #[.agg #[.int .u64 (lo : Int), .int .u64 (hi : Int)]] w fun e w' => e = .returned (.tuple #[.agg #[.int .u64 ((makeN lo hi).1 : Int), .int .u64 ((makeN lo hi).2.1 : Int)], .int .i64 ((makeN lo hi).2.2 : Int)]) ∧ Below w.heap.size w w' := by
  have H1 : Hid (lo < 18446744073709551616) := h1
  have H2 : Hid (hi < 18446744073709551616) := h2
  clear h1 h2
  have HR : Hid (makeN lo hi = if (plainN lo).isSome = false ∨ (plainN hi).isSome = false then (0, 0, 1) else if lessW hi lo = true then (0, 0, 2) else (posW lo, posW hi, 0)) := rfl
  have HL : Hid (lessW hi lo = lessN ((plainN hi).getD (false, 0, 0)).1 ((plainN hi).getD (false, 0, 0)).2.1 ((plainN hi).getD (false, 0, 0)).2.2 ((plainN lo).getD (false, 0, 0)).1 ((plainN lo).getD (false, 0, 0)).2.1 ((plainN lo).getD (false, 0, 0)).2.2) := rfl
  go_enter Tryz.func27, Tryz.ntmps27
  go_wp2_with fail
  have hW : Below w.heap.size w ((w.alloc (Obj.cells #[Value.int IntKind.u64 lo, Value.int IntKind.u64 hi] 28)).alloc (Obj.cells #[Value.int IntKind.u64 0, Value.int IntKind.u64 0] 28)) :=
    ((Below.refl _ _).alloc (Nat.le_refl _) _).alloc (by simp) _
  refine (plain_any lo _ H1.out).mono ?_
  rintro e w1 ⟨x1, rfl, hX1, hb1⟩
  have B0 := blk_below (blk_old (blk_new w (Obj.cells #[Value.int IntKind.u64 lo, Value.int IntKind.u64 hi] 28)) _) hb1
  have B1 := blk_below (blk_new (w.alloc (Obj.cells #[Value.int IntKind.u64 lo, Value.int IntKind.u64 hi] 28)) _) hb1
  simp only [World.size_alloc] at B1
  have hbA : Below w.heap.size w w1 := hW.trans (hb1.mono hW.size)
  obtain ⟨q1, q2, q3⟩ := plainN_bounds (b := lo) _ rfl
  generalize (plainN lo).getD (false, 0, 0) = X1 at *
  generalize (plainN lo).isSome = ok1 at *
  obtain ⟨s1, n1, e1⟩ := X1
  obtain ⟨ao1, la1, ca1, rfl, hl1, hN1⟩ := hX1
  simp only at hl1 hN1 q1 q2 q3
  have HQ1 : Hid ((digits n1).length ≤ 400000 ∧ -400000 ≤ e1 ∧ e1 ≤ 400000) := ⟨q1, q2, q3⟩
  have HL1 : Hid (la1 = (digits n1).length) := hl1
  obtain ⟨k00, k01, -, -⟩ := blk2 B0
  have hz1 : w.heap.size + 1 < w1.heap.size := (Array.getElem?_eq_some_iff.1 B1).1
  have hz0 : w.heap.size < w1.heap.size := by omega
  clear hW hb1 hl1 q1 q2 q3
  go_wp2_with fail
  refine (plain_any hi _ H2.out).mono ?_
  rintro e w2 ⟨x2, rfl, hX2, hb2⟩
  have hA1 : Below w1.heap.size w1 (w1.alloc (Obj.cells #[Value.bool s1, Value.slice ao1 la1 ca1, Value.int IntKind.i64 e1] 92)) := (Below.refl _ _).alloc (Nat.le_refl _) _
  have B0 := blk_below (blk_below B0 hA1) hb2
  have B1 := blk_below (blk_below B1 hA1) hb2
  have BN1 := blk_below (blk_new w1 (Obj.cells #[Value.bool s1, Value.slice ao1 la1 ca1, Value.int IntKind.i64 e1] 92)) hb2
  have hN1 := (hN1.below hA1 (Nat.le_refl _)).below hb2 (Nat.le_refl _)
  have hbB : Below w.heap.size w w2 := (hbA.alloc hbA.size _).trans (hb2.mono (by have := hbA.size; simp; omega))
  obtain ⟨q1, q2, q3⟩ := plainN_bounds (b := hi) _ rfl
  generalize (plainN hi).getD (false, 0, 0) = X2 at *
  generalize (plainN hi).isSome = ok2 at *
  obtain ⟨s2, n2, e2⟩ := X2
  obtain ⟨ao2, la2, ca2, rfl, hl2, hN2⟩ := hX2
  simp only at hl2 hN2 q1 q2 q3
  have HQ2 : Hid ((digits n2).length ≤ 400000 ∧ -400000 ≤ e2 ∧ e2 ≤ 400000) := ⟨q1, q2, q3⟩
  have HL2 : Hid (la2 = (digits n2).length) := hl2
  obtain ⟨j00, j01, -, -⟩ := blk2 B0
  obtain ⟨j10, j11, j12, j13⟩ := blk2 B1
  obtain ⟨m0, m1, m2, -, -, -⟩ := blk3 BN1
  have HB0 : Hid (w2.heap[w.heap.size]? = _) := B0
  have HB1 : Hid (w2.heap[w.heap.size + 1]? = _) := B1
  have HN1 : Hid (NatV w2 _ n1) := hN1
  have HN2 : Hid (NatV w2 _ n2) := hN2
  have HbB : Hid (Below w.heap.size w w2) := hbB
  have hz2 : w1.heap.size < w2.heap.size := (Array.getElem?_eq_some_iff.1 BN1).1
  have hz3 : w.heap.size < w2.heap.size := by omega
  have hz4 : w.heap.size + 1 < w2.heap.size := by omega
  clear hA1 hb2 hl2 q1 q2 q3 B0 B1 BN1 hN1 hN2 hbA hbB k00 k01
  cases ok1
  · have r : Hid (makeN lo hi = (0, 0, 1)) := by show _ = _; rw [HR.out, if_pos (Or.inl rfl)]
    clear HR HL
    go_wp2
    obtain ⟨c10, c11, -, -⟩ := blk2 (blk_old (blk_store2 (a := .int .u64 0) (b := .int .u64 0) HB1.out) (Obj.cells #[Value.bool s2, Value.slice ao2 la2 ca2, Value.int IntKind.i64 e2] 92))
    refine bodyPost_ret (v := .tuple #[.agg #[.int .u64 0, .int .u64 0], .int .i64 1]) (by simp [results, Tryz.results27, go_sem, c10, c11]) rfl ?_
    rw [r.out]
    exact ⟨rfl, ((HbB.out.setCell (by simp) _).setCell (by simp) _).alloc (by have := HbB.out.size; simpa using this) _⟩
  · cases ok2
    · have r : Hid (makeN lo hi = (0, 0, 1)) := by show _ = _; rw [HR.out, if_pos (Or.inr rfl)]
      clear HR HL
      go_wp2
      obtain ⟨c10, c11, -, -⟩ := blk2 (blk_old (blk_store2 (a := .int .u64 0) (b := .int .u64 0) HB1.out) (Obj.cells #[Value.bool s2, Value.slice ao2 la2 ca2, Value.int IntKind.i64 e2] 92))
      refine bodyPost_ret (v := .tuple #[.agg #[.int .u64 0, .int .u64 0], .int .i64 1]) (by simp [results, Tryz.results27, go_sem, c10, c11]) rfl ?_
      rw [r.out]
      exact ⟨rfl, ((HbB.out.setCell (by simp) _).setCell (by simp) _).alloc (by have := HbB.out.size; simpa using this) _⟩
    · have hA2 : Below w2.heap.size w2 (w2.alloc (Obj.cells #[Value.bool s2, Value.slice ao2 la2 ca2, Value.int IntKind.i64 e2] 92)) := (Below.refl _ _).alloc (Nat.le_refl _) _
      have HN1' : Hid (NumV (w2.alloc (Obj.cells #[Value.bool s2, Value.slice ao2 la2 ca2, Value.int IntKind.i64 e2] 92)) (.agg #[.bool s1, .slice ao1 la1 ca1, .int .i64 e1]) s1 n1 e1) := ⟨_, _, _, rfl, HL1.out, HN1.out.below hA2 (Nat.le_refl _)⟩
      have HN2' : Hid (NumV (w2.alloc (Obj.cells #[Value.bool s2, Value.slice ao2 la2 ca2, Value.int IntKind.i64 e2] 92)) (.agg #[.bool s2, .slice ao2 la2 ca2, .int .i64 e2]) s2 n2 e2) := ⟨_, _, _, rfl, HL2.out, HN2.out.below hA2 (Nat.le_refl _)⟩
      have HB0 : Hid ((w2.alloc (Obj.cells #[Value.bool s2, Value.slice ao2 la2 ca2, Value.int IntKind.i64 e2] 92)).heap[w.heap.size]? = _) := blk_below HB0.out hA2
      have HB1 : Hid ((w2.alloc (Obj.cells #[Value.bool s2, Value.slice ao2 la2 ca2, Value.int IntKind.i64 e2] 92)).heap[w.heap.size + 1]? = _) := blk_below HB1.out hA2
      have HbC : Hid (Below w.heap.size w (w2.alloc (Obj.cells #[Value.bool s2, Value.slice ao2 la2 ca2, Value.int IntKind.i64 e2] 92))) := HbB.out.alloc HbB.out.size _
      clear hA2 HN1 HN2 HbB
      go_wp2_with fail
      refine (less_any _ _ s2 s1 n2 n1 e2 e1 _ HN2'.out HN1'.out HQ2.out.1 HQ1.out.1 HQ2.out.2.1 HQ2.out.2.2 HQ1.out.2.1 HQ1.out.2.2).mono ?_
      rintro e w3 ⟨rfl, hb3⟩
      have hlw : lessN s2 n2 e2 s1 n1 e1 = lessW hi lo := HL.out.symm
      rw [hlw]
      have B0 := blk_below HB0.out hb3
      have B1 := blk_below HB1.out hb3
      have HbD : Hid (Below w.heap.size w w3) := HbC.out.trans (hb3.mono HbC.out.size)
      clear hb3 hlw HbC HB0 HB1 HN1' HN2' j00 j01 j10 j11 j12 j13 m0 m1 m2 hz0 hz1 hz2 hz3 hz4 HQ1 HQ2 HL1 HL2 HL
      obtain ⟨k00, k01, -, -⟩ := blk2 B0
      obtain ⟨k10, k11, k12, k13⟩ := blk2 B1
      have HB1 : Hid (w3.heap[w.heap.size + 1]? = _) := B1
      clear B0 B1
      cases hlt : lessW hi lo
      · have r : Hid (makeN lo hi = (posW lo, posW hi, 0)) := by show _ = _; rw [HR.out, if_neg (by simp), if_neg (by rw [hlt]; simp)]
        clear HR hlt
        go_wp2_with fail
        go_region_held3 (fun W => W.cell? ⟨w.heap.size, 0, none⟩ = some (.int .u64 (lo : Int)) ∧ W.cell? ⟨w.heap.size, 1, none⟩ = some (.int .u64 (hi : Int))) (first | (go_keep; done) | (refine ⟨?_, ?_⟩ <;> first | (go_keep; done) | (rw [cell_set_ne (by omega), cell_set_ne (by omega)]; assumption)))
          (first
            | (go_at_call_of 59 (Value.int IntKind.u64 (lo : Int)); refine (positive_any lo _ H1.out).mono ?_; rintro e w4 ⟨rfl, rfl⟩)
            | (go_at_call_of 59 (Value.int IntKind.u64 (hi : Int)); refine (positive_any hi _ H2.out).mono ?_; rintro e w4 ⟨rfl, rfl⟩))
        all_goals
          go_wp2
          refine bodyPost_ret (v := .tuple #[.agg #[.int .u64 (posW lo : Int), .int .u64 (posW hi : Int)], .int .i64 0]) (by simp [results, Tryz.results27, go_sem, k10, k11]) rfl ?_
          rw [r.out]
          exact ⟨rfl, ((HbD.out.setCell (by simp) _).setCell (by simp) _).drew⟩
      · have r : Hid (makeN lo hi = (0, 0, 2)) := by show _ = _; rw [HR.out, if_neg (by simp), if_pos hlt]
        clear HR hlt
        go_wp2
        refine bodyPost_ret (v := .tuple #[.agg #[.int .u64 0, .int .u64 0], .int .i64 2]) (by simp [results, Tryz.results27, go_sem, k10, k11]) rfl ?_
        rw [r.out]
        exact ⟨rfl, (HbD.out.setCell (by simp) _).setCell (by simp) _⟩
end Go.Proofs.YtonhpkigoplmaaaGreatDoor
