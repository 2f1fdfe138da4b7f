/-
  NumG, FltC, RefM, NumH, NumI, RndM, FltD, FltE, FltF, SumM, SumN.
-/
import Derived.Test.YtonhpkigoplmaaaGreatDoorF03
import Derived.Deep.RegionHeld3
import Derived.Laws.FloatArith
namespace Go.Proofs.YtonhpkigoplmaaaGreatDoor
open Go.RowKit

/-- 53 bits of a number, and by how many it was shifted; up: what is left counts as one more. -/
def mant (n : Nat) (up : Bool) : Nat × Int :=
  if bl n ≤ 53 then (n * 2 ^ (53 - bl n), (bl n : Int) - 53)
  else if up = true ∧ n % 2 ^ (bl n - 53) ≠ 0 then
    (if n / 2 ^ (bl n - 53) + 1 = 9007199254740992 then (4503599627370496, (bl n : Int) - 52) else (n / 2 ^ (bl n - 53) + 1, (bl n : Int) - 53))
  else (n / 2 ^ (bl n - 53), (bl n : Int) - 53)

/-- Does this way go off 0? -/
def offS (s : Bool) (way : Int) : Bool := decide (0 < way) && !s || decide (way < 0) && s

/-- What Round gives. -/
def roundN (s : Bool) (n : Nat) (e way : Int) : Nat × Bool :=
  if n = 0 then (0, true) else packN s (mant n (offS s way)).1 (e + (mant n (offS s way)).2)

theorem bl_pos {n : Nat} (h : 0 < n) : 0 < bl n := (bl_bounds h).2.2

theorem bl_of {n k : Nat} (h1 : 2 ^ (k - 1) ≤ n) (h2 : n < 2 ^ k) (hk : 0 < k) : bl n = k := by
  obtain ⟨j, rfl⟩ : ∃ j, k = j + 1 := ⟨k - 1, by omega⟩
  exact bl_unique (by simpa using h1) h2

theorem p52 : (2 : Nat) ^ 52 = 4503599627370496 := rfl
theorem p53 : (2 : Nat) ^ 53 = 9007199254740992 := rfl

/-- A short number, shifted. -/
theorem short_bounds {n : Nat} (h0 : 0 < n) (h : bl n ≤ 53) : 4503599627370496 ≤ n * 2 ^ (53 - bl n) ∧ n * 2 ^ (53 - bl n) < 9007199254740992 := by
  obtain ⟨b1, b2, b3⟩ := bl_bounds h0
  have e1 : (2 : Nat) ^ (bl n - 1) * 2 ^ (53 - bl n) = 4503599627370496 := by rw [← Nat.pow_add, ← p52]; congr 1; omega
  have e2 : (2 : Nat) ^ (bl n) * 2 ^ (53 - bl n) = 9007199254740992 := by rw [← Nat.pow_add, ← p53]; congr 1; omega
  have h1 := Nat.mul_le_mul_right (2 ^ (53 - bl n)) b1
  have h2 := Nat.mul_lt_mul_of_pos_right b2 (Nat.two_pow_pos (53 - bl n))
  rw [e1] at h1
  rw [e2] at h2
  exact ⟨h1, h2⟩

/-- A long number, cut. -/
theorem long_bounds {n : Nat} (h : 53 < bl n) : 4503599627370496 ≤ n / 2 ^ (bl n - 53) ∧ n / 2 ^ (bl n - 53) < 9007199254740992 := by
  have h0 : 0 < n := by
    rcases Nat.eq_zero_or_pos n with h0 | h0
    · subst h0; simp [bl_zero] at h
    · exact h0
  obtain ⟨b1, b2, b3⟩ := bl_bounds h0
  have e1 : 4503599627370496 * (2 : Nat) ^ (bl n - 53) = 2 ^ (bl n - 1) := by rw [← p52, ← Nat.pow_add]; congr 1; omega
  have e2 : 9007199254740992 * (2 : Nat) ^ (bl n - 53) = 2 ^ (bl n) := by rw [← p53, ← Nat.pow_add]; congr 1; omega
  constructor
  · exact (Nat.le_div_iff_mul_le (Nat.two_pow_pos _)).2 (by rw [e1]; exact b1)
  · exact (Nat.div_lt_iff_lt_mul (Nat.two_pow_pos _)).2 (by rw [e2]; exact b2)

theorem bl53 {q : Nat} (h1 : 4503599627370496 ≤ q) (h2 : q < 9007199254740992) : bl q = 53 := bl_of (by rw [show 53 - 1 = 52 by rfl, p52]; exact h1) (by rw [p53]; exact h2) (by decide)
theorem bl54 : bl 9007199254740992 = 54 := bl_of (by rw [show 54 - 1 = 53 by rfl, p53]; exact Nat.le_refl _) (by decide) (by decide)

theorem mant_bounds {n : Nat} (up : Bool) (h0 : 0 < n) : 4503599627370496 ≤ (mant n up).1 ∧ (mant n up).1 < 9007199254740992 := by
  unfold mant
  split
  · exact short_bounds h0 (by assumption)
  · have := long_bounds (n := n) (by omega)
    split
    · split <;> simp <;> omega
    · exact this

theorem len_of_bl (n : Nat) : (digits n).length ≤ bl n / 24 + 1 := by
  rcases Nat.eq_zero_or_pos n with h0 | h0
  · subst h0; simp [digits_zero]
  · exact len_of_lt2 (bl_bounds h0).2.1

end Go.Proofs.YtonhpkigoplmaaaGreatDoor
namespace Go.Proofs.YtonhpkigoplmaaaGreatDoor
open Go.RowKit Go.Extern
attribute [local go_sem] run_store_float

theorem blk2 {W : World} {g : Nat} {a b : Value} {t : TypeId} (h : W.heap[g]? = some (.cells #[a, b] t (0, 0))) :
    W.cell? ⟨g, 0, none⟩ = some a ∧ W.cell? ⟨g, 1, none⟩ = some b ∧ W.frozen? ⟨g, 0, none⟩ = false ∧ W.frozen? ⟨g, 1, none⟩ = false :=
  ⟨by simp [World.cell?, h], by simp [World.cell?, h], by simp [World.frozen?, h], by simp [World.frozen?, h]⟩

theorem lo_any (x y : Nat) (w : World) : Calls Tryz.prog 100 #[.agg #[.float .f64 x, .float .f64 y]] w fun e w' => e = .returned (.float .f64 x) ∧ Below w.heap.size w w' := by
  go_enter Tryz.func100, Tryz.ntmps100
  go_wp2
  go_ret
  exact ⟨rfl, (Below.refl _ _).alloc (Nat.le_refl _) _⟩

theorem hi_any (x y : Nat) (w : World) : Calls Tryz.prog 101 #[.agg #[.float .f64 x, .float .f64 y]] w fun e w' => e = .returned (.float .f64 y) ∧ Below w.heap.size w w' := by
  go_enter Tryz.func101, Tryz.ntmps101
  go_wp2
  go_ret
  exact ⟨rfl, (Below.refl _ _).alloc (Nat.le_refl _) _⟩

set_option maxHeartbeats 400000 in
theorem box_any (x y : Nat) (w : World) : Calls Tryz.prog 50 #[.agg #[.float .f64 x, .float .f64 y]] w fun e w' => e = .returned (.agg #[.int .u64 (x : Int), .int .u64 (y : Int)]) ∧ Below w.heap.size w w' := by
  have h89 := @run_callFunc_extern Tryz.prog 99 _ MathFloatBits.float64bits Tryz.func99 (by kernel_rfl) (by kernel_rfl) (by kernel_rfl) (by kernel_rfl)
  have cb := c_bits
  go_enter Tryz.func50, Tryz.ntmps50
  go_wp2_with fail
  have B0 := blk_old (blk_new w (Obj.cells #[Value.float FloatKind.f64 x, Value.float FloatKind.f64 y] 67)) (Obj.cells #[Value.int IntKind.u64 0, Value.int IntKind.u64 0] 33)
  have B1 := blk_new (w.alloc (Obj.cells #[Value.float FloatKind.f64 x, Value.float FloatKind.f64 y] 67)) (Obj.cells #[Value.int IntKind.u64 0, Value.int IntKind.u64 0] 33)
  have hW : Below w.heap.size w ((w.alloc (Obj.cells #[Value.float FloatKind.f64 x, Value.float FloatKind.f64 y] 67)).alloc (Obj.cells #[Value.int IntKind.u64 0, Value.int IntKind.u64 0] 33)) :=
    ((Below.refl _ _).alloc (Nat.le_refl _) _).alloc (by simp) _
  simp only [World.size_alloc] at B1
  generalize ((w.alloc (Obj.cells #[Value.float FloatKind.f64 x, Value.float FloatKind.f64 y] 67)).alloc (Obj.cells #[Value.int IntKind.u64 0, Value.int IntKind.u64 0] 33)) = W2 at *
  obtain ⟨k00, k01, -, -⟩ := blk2 B0
  obtain ⟨k10, k11, k12, k13⟩ := blk2 B1
  have HB0 : Hid (W2.heap[w.heap.size]? = _) := B0
  have HB1 : Hid (W2.heap[w.heap.size + 1]? = _) := B1
  have HW : Hid (Below w.heap.size w W2) := hW
  clear B0 B1 hW
  go_region_held3 (fun W => W.cell? ⟨w.heap.size, 0, none⟩ = some (.float .f64 x) ∧ W.cell? ⟨w.heap.size, 1, none⟩ = some (.float .f64 y)) (first | (go_keep; done) | (refine ⟨?_, ?_⟩ <;> first | (go_keep; done) | (rw [cell_set_ne (by omega), cell_set_ne (by omega)]; assumption)))
    (first
      | (go_at_call 100; refine (lo_any x y _).mono ?_; rintro e w3 ⟨rfl, hb3⟩; have HB3 : Hid (Below _ _ w3) := hb3; obtain ⟨k00, k01, -, -⟩ := blk2 (blk_below (show (W2.drew).heap[w.heap.size]? = _ from HB0.out) hb3); obtain ⟨k10, k11, k12, k13⟩ := blk2 (blk_below (show (W2.drew).heap[w.heap.size + 1]? = _ from HB1.out) hb3); clear hb3)
      | (go_at_call 101; refine (hi_any x y _).mono ?_; rintro e w4 ⟨rfl, hb4⟩; have HB4 : Hid (Below _ _ w4) := hb4; obtain ⟨k00, k01, -, -⟩ := blk2 (blk_below (blk_below (show (W2.drew).heap[w.heap.size]? = _ from HB0.out) HB3.out) hb4); obtain ⟨k10, k11, k12, k13⟩ := blk2 (blk_below (blk_below (show (W2.drew).heap[w.heap.size + 1]? = _ from HB1.out) HB3.out) hb4); clear hb4))
  have hbz : Below w.heap.size w w4 := by
    have h0 := HW.out.size
    have h3 := HB3.out
    have h4 := HB4.out
    have h5 : Below w.heap.size w W2.drew := HW.out.drew
    exact (h5.trans (h3.mono (by show _ ≤ W2.heap.size; omega))).trans (h4.mono (by have := h3.size; have e : W2.drew.heap.size = W2.heap.size := rfl; omega))
  clear HB3 HB4 HW HB0 HB1
  go_wp2
  refine bodyPost_ret (v := .agg #[.int .u64 (x : Int), .int .u64 (y : Int)]) (by simp [results, Tryz.results50, go_sem, k10, k11]) rfl ⟨rfl, ?_⟩
  exact (hbz.setCell (by simp) _).setCell (by simp) _

theorem blk_store2 {W : World} {g : Nat} {a b a' b' : Value} {t : TypeId} (h : W.heap[g]? = some (.cells #[a', b'] t (0, 0))) :
    ((W.setCell ⟨g, 0, none⟩ a).setCell ⟨g, 1, none⟩ b).heap[g]? = some (.cells #[a, b] t (0, 0)) := by
  have := heap_setCell_same _ g 1 _ t b (heap_setCell_same W g 0 _ t a h)
  simpa using this

theorem code_errV (A : Nat → Addr) (k : Nat) (w : World) (hk : k ≤ 9) (hS : Sents A w) :
    Calls Tryz.prog 49 #[errV A k] w fun e w' => e = .returned (.tuple #[.int .i64 (k : Int), .string ⟨#[]⟩]) ∧ Below w.heap.size w w' := by
  unfold errV
  by_cases h : k = 0
  · subst h
    rw [if_pos rfl]
    refine (code_nil w).mono ?_
    rintro e w' ⟨rfl, rfl⟩
    exact ⟨rfl, Below.refl _ _⟩
  · rw [if_neg h]
    refine (code_sent A w (k - 1) (by omega) hS).mono ?_
    rintro e w' ⟨rfl, hb⟩
    exact ⟨by rw [show k - 1 + 1 = k by omega], hb⟩

end Go.Proofs.YtonhpkigoplmaaaGreatDoor
namespace Go.Proofs.YtonhpkigoplmaaaGreatDoor
open Go.RowKit

theorem posW_eq {b : Nat} (hb : b < 18446744073709551616) : posW b = if b = 9223372036854775808 then 0 else b := by
  unfold posW; split <;> split <;> omega

theorem positive_any (b : Nat) (w : World) (hb : b < 18446744073709551616) : Calls Tryz.prog 59 #[.int .u64 (b : Int)] w fun e w' => e = .returned (.int .u64 (posW b : Int)) ∧ w' = w := by
  rw [posW_eq hb]
  clear hb
  by_cases h : b = 9223372036854775808
  · subst h
    rw [if_pos rfl]
    go_enter Tryz.func59, Tryz.ntmps59
    go_wp2
    go_ret
    exact ⟨rfl, rfl⟩
  · rw [if_neg h]
    have h1 : ((b : Int) == 9223372036854775808) = false := by simp; omega
    clear h
    go_enter Tryz.func59, Tryz.ntmps59
    go_wp2
    go_ret
    exact ⟨rfl, rfl⟩

theorem plainN_bounds {b : Nat} (x : Bool × Nat × Int) (h : x = (plainN b).getD (false, 0, 0)) : (digits x.2.1).length ≤ 400000 ∧ -400000 ≤ x.2.2 ∧ x.2.2 ≤ 400000 := by
  have hz : (digits 0).length = 0 := rfl
  subst h
  unfold plainN
  split
  · simp [hz]
  · split
    · simp [hz]
    · rename_i h1 h2
      simp only [Option.getD_some]
      have := len_of_lt2 (n := b % 4503599627370496 + 4503599627370496) (k := 54) (by omega)
      omega

set_option maxHeartbeats 400000 in
theorem refMake_any (lo hi : Nat) (w : World) (h1 : lo < 18446744073709551616) (h2 : hi < 18446744073709551616) :
    Calls Tryz.prog 27 #[.agg #[.int .u64 (lo : Int), .int .u64 (hi : Int)]] w fun e w' => e = .returned (.tuple #[.agg #[.int .u64 ((makeN lo hi).1 : Int), .int .u64 ((makeN lo hi).2.1 : Int)], .int .i64 ((makeN lo hi).2.2 : Int)]) ∧ Below w.heap.size w w' := by
  have H1 : Hid (lo < 18446744073709551616) := h1
  have H2 : Hid (hi < 18446744073709551616) := h2
  clear h1 h2
  have HR : Hid (makeN lo hi = if (plainN lo).isSome = false ∨ (plainN hi).isSome = false then (0, 0, 1) else if lessW hi lo = true then (0, 0, 2) else (posW lo, posW hi, 0)) := rfl
  have HL : Hid (lessW hi lo = lessN ((plainN hi).getD (false, 0, 0)).1 ((plainN hi).getD (false, 0, 0)).2.1 ((plainN hi).getD (false, 0, 0)).2.2 ((plainN lo).getD (false, 0, 0)).1 ((plainN lo).getD (false, 0, 0)).2.1 ((plainN lo).getD (false, 0, 0)).2.2) := rfl
  go_enter Tryz.func27, Tryz.ntmps27
  go_wp2_with fail
  have hW : Below w.heap.size w ((w.alloc (Obj.cells #[Value.int IntKind.u64 lo, Value.int IntKind.u64 hi] 28)).alloc (Obj.cells #[Value.int IntKind.u64 0, Value.int IntKind.u64 0] 28)) :=
    ((Below.refl _ _).alloc (Nat.le_refl _) _).alloc (by simp) _
  refine (plain_any lo _ H1.out).mono ?_
  rintro e w1 ⟨x1, rfl, hX1, hb1⟩
  have B0 := blk_below (blk_old (blk_new w (Obj.cells #[Value.int IntKind.u64 lo, Value.int IntKind.u64 hi] 28)) _) hb1
  have B1 := blk_below (blk_new (w.alloc (Obj.cells #[Value.int IntKind.u64 lo, Value.int IntKind.u64 hi] 28)) _) hb1
  simp only [World.size_alloc] at B1
  have hbA : Below w.heap.size w w1 := hW.trans (hb1.mono hW.size)
  obtain ⟨q1, q2, q3⟩ := plainN_bounds (b := lo) _ rfl
  generalize (plainN lo).getD (false, 0, 0) = X1 at *
  generalize (plainN lo).isSome = ok1 at *
  obtain ⟨s1, n1, e1⟩ := X1
  obtain ⟨ao1, la1, ca1, rfl, hl1, hN1⟩ := hX1
  simp only at hl1 hN1 q1 q2 q3
  have HQ1 : Hid ((digits n1).length ≤ 400000 ∧ -400000 ≤ e1 ∧ e1 ≤ 400000) := ⟨q1, q2, q3⟩
  have HL1 : Hid (la1 = (digits n1).length) := hl1
  obtain ⟨k00, k01, -, -⟩ := blk2 B0
  have hz1 : w.heap.size + 1 < w1.heap.size := (Array.getElem?_eq_some_iff.1 B1).1
  have hz0 : w.heap.size < w1.heap.size := by omega
  clear hW hb1 hl1 q1 q2 q3
  go_wp2_with fail
  refine (plain_any hi _ H2.out).mono ?_
  rintro e w2 ⟨x2, rfl, hX2, hb2⟩
  have hA1 : Below w1.heap.size w1 (w1.alloc (Obj.cells #[Value.bool s1, Value.slice ao1 la1 ca1, Value.int IntKind.i64 e1] 92)) := (Below.refl _ _).alloc (Nat.le_refl _) _
  have B0 := blk_below (blk_below B0 hA1) hb2
  have B1 := blk_below (blk_below B1 hA1) hb2
  have BN1 := blk_below (blk_new w1 (Obj.cells #[Value.bool s1, Value.slice ao1 la1 ca1, Value.int IntKind.i64 e1] 92)) hb2
  have hN1 := (hN1.below hA1 (Nat.le_refl _)).below hb2 (Nat.le_refl _)
  have hbB : Below w.heap.size w w2 := (hbA.alloc hbA.size _).trans (hb2.mono (by have := hbA.size; simp; omega))
  obtain ⟨q1, q2, q3⟩ := plainN_bounds (b := hi) _ rfl
  generalize (plainN hi).getD (false, 0, 0) = X2 at *
  generalize (plainN hi).isSome = ok2 at *
  obtain ⟨s2, n2, e2⟩ := X2
  obtain ⟨ao2, la2, ca2, rfl, hl2, hN2⟩ := hX2
  simp only at hl2 hN2 q1 q2 q3
  have HQ2 : Hid ((digits n2).length ≤ 400000 ∧ -400000 ≤ e2 ∧ e2 ≤ 400000) := ⟨q1, q2, q3⟩
  have HL2 : Hid (la2 = (digits n2).length) := hl2
  obtain ⟨j00, j01, -, -⟩ := blk2 B0
  obtain ⟨j10, j11, j12, j13⟩ := blk2 B1
  obtain ⟨m0, m1, m2, -, -, -⟩ := blk3 BN1
  have HB0 : Hid (w2.heap[w.heap.size]? = _) := B0
  have HB1 : Hid (w2.heap[w.heap.size + 1]? = _) := B1
  have HN1 : Hid (NatV w2 _ n1) := hN1
  have HN2 : Hid (NatV w2 _ n2) := hN2
  have HbB : Hid (Below w.heap.size w w2) := hbB
  have hz2 : w1.heap.size < w2.heap.size := (Array.getElem?_eq_some_iff.1 BN1).1
  have hz3 : w.heap.size < w2.heap.size := by omega
  have hz4 : w.heap.size + 1 < w2.heap.size := by omega
  clear hA1 hb2 hl2 q1 q2 q3 B0 B1 BN1 hN1 hN2 hbA hbB k00 k01
  cases ok1
  · have r : Hid (makeN lo hi = (0, 0, 1)) := by show _ = _; rw [HR.out, if_pos (Or.inl rfl)]
    clear HR HL
    go_wp2
    obtain ⟨c10, c11, -, -⟩ := blk2 (blk_old (blk_store2 (a := .int .u64 0) (b := .int .u64 0) HB1.out) (Obj.cells #[Value.bool s2, Value.slice ao2 la2 ca2, Value.int IntKind.i64 e2] 92))
    refine bodyPost_ret (v := .tuple #[.agg #[.int .u64 0, .int .u64 0], .int .i64 1]) (by simp [results, Tryz.results27, go_sem, c10, c11]) rfl ?_
    rw [r.out]
    exact ⟨rfl, ((HbB.out.setCell (by simp) _).setCell (by simp) _).alloc (by have := HbB.out.size; simpa using this) _⟩
  · cases ok2
    · have r : Hid (makeN lo hi = (0, 0, 1)) := by show _ = _; rw [HR.out, if_pos (Or.inr rfl)]
      clear HR HL
      go_wp2
      obtain ⟨c10, c11, -, -⟩ := blk2 (blk_old (blk_store2 (a := .int .u64 0) (b := .int .u64 0) HB1.out) (Obj.cells #[Value.bool s2, Value.slice ao2 la2 ca2, Value.int IntKind.i64 e2] 92))
      refine bodyPost_ret (v := .tuple #[.agg #[.int .u64 0, .int .u64 0], .int .i64 1]) (by simp [results, Tryz.results27, go_sem, c10, c11]) rfl ?_
      rw [r.out]
      exact ⟨rfl, ((HbB.out.setCell (by simp) _).setCell (by simp) _).alloc (by have := HbB.out.size; simpa using this) _⟩
    · have hA2 : Below w2.heap.size w2 (w2.alloc (Obj.cells #[Value.bool s2, Value.slice ao2 la2 ca2, Value.int IntKind.i64 e2] 92)) := (Below.refl _ _).alloc (Nat.le_refl _) _
      have HN1' : Hid (NumV (w2.alloc (Obj.cells #[Value.bool s2, Value.slice ao2 la2 ca2, Value.int IntKind.i64 e2] 92)) (.agg #[.bool s1, .slice ao1 la1 ca1, .int .i64 e1]) s1 n1 e1) := ⟨_, _, _, rfl, HL1.out, HN1.out.below hA2 (Nat.le_refl _)⟩
      have HN2' : Hid (NumV (w2.alloc (Obj.cells #[Value.bool s2, Value.slice ao2 la2 ca2, Value.int IntKind.i64 e2] 92)) (.agg #[.bool s2, .slice ao2 la2 ca2, .int .i64 e2]) s2 n2 e2) := ⟨_, _, _, rfl, HL2.out, HN2.out.below hA2 (Nat.le_refl _)⟩
      have HB0 : Hid ((w2.alloc (Obj.cells #[Value.bool s2, Value.slice ao2 la2 ca2, Value.int IntKind.i64 e2] 92)).heap[w.heap.size]? = _) := blk_below HB0.out hA2
      have HB1 : Hid ((w2.alloc (Obj.cells #[Value.bool s2, Value.slice ao2 la2 ca2, Value.int IntKind.i64 e2] 92)).heap[w.heap.size + 1]? = _) := blk_below HB1.out hA2
      have HbC : Hid (Below w.heap.size w (w2.alloc (Obj.cells #[Value.bool s2, Value.slice ao2 la2 ca2, Value.int IntKind.i64 e2] 92))) := HbB.out.alloc HbB.out.size _
      clear hA2 HN1 HN2 HbB
      go_wp2_with fail
      refine (less_any _ _ s2 s1 n2 n1 e2 e1 _ HN2'.out HN1'.out HQ2.out.1 HQ1.out.1 HQ2.out.2.1 HQ2.out.2.2 HQ1.out.2.1 HQ1.out.2.2).mono ?_
      rintro e w3 ⟨rfl, hb3⟩
      have hlw : lessN s2 n2 e2 s1 n1 e1 = lessW hi lo := HL.out.symm
      rw [hlw]
      have B0 := blk_below HB0.out hb3
      have B1 := blk_below HB1.out hb3
      have HbD : Hid (Below w.heap.size w w3) := HbC.out.trans (hb3.mono HbC.out.size)
      clear hb3 hlw HbC HB0 HB1 HN1' HN2' j00 j01 j10 j11 j12 j13 m0 m1 m2 hz0 hz1 hz2 hz3 hz4 HQ1 HQ2 HL1 HL2 HL
      obtain ⟨k00, k01, -, -⟩ := blk2 B0
      obtain ⟨k10, k11, k12, k13⟩ := blk2 B1
      have HB1 : Hid (w3.heap[w.heap.size + 1]? = _) := B1
      clear B0 B1
      cases hlt : lessW hi lo
      · have r : Hid (makeN lo hi = (posW lo, posW hi, 0)) := by show _ = _; rw [HR.out, if_neg (by simp), if_neg (by rw [hlt]; simp)]
        clear HR hlt
        go_wp2_with fail
        go_region_held3 (fun W => W.cell? ⟨w.heap.size, 0, none⟩ = some (.int .u64 (lo : Int)) ∧ W.cell? ⟨w.heap.size, 1, none⟩ = some (.int .u64 (hi : Int))) (first | (go_keep; done) | (refine ⟨?_, ?_⟩ <;> first | (go_keep; done) | (rw [cell_set_ne (by omega), cell_set_ne (by omega)]; assumption)))
          (first
            | (go_at_call_of 59 (Value.int IntKind.u64 (lo : Int)); refine (positive_any lo _ H1.out).mono ?_; rintro e w4 ⟨rfl, rfl⟩)
            | (go_at_call_of 59 (Value.int IntKind.u64 (hi : Int)); refine (positive_any hi _ H2.out).mono ?_; rintro e w4 ⟨rfl, rfl⟩))
        all_goals
          go_wp2
          refine bodyPost_ret (v := .tuple #[.agg #[.int .u64 (posW lo : Int), .int .u64 (posW hi : Int)], .int .i64 0]) (by simp [results, Tryz.results27, go_sem, k10, k11]) rfl ?_
          rw [r.out]
          exact ⟨rfl, ((HbD.out.setCell (by simp) _).setCell (by simp) _).drew⟩
      · have r : Hid (makeN lo hi = (0, 0, 2)) := by show _ = _; rw [HR.out, if_neg (by simp), if_pos hlt]
        clear HR hlt
        go_wp2
        refine bodyPost_ret (v := .tuple #[.agg #[.int .u64 0, .int .u64 0], .int .i64 2]) (by simp [results, Tryz.results27, go_sem, k10, k11]) rfl ?_
        rw [r.out]
        exact ⟨rfl, (HbD.out.setCell (by simp) _).setCell (by simp) _⟩
end Go.Proofs.YtonhpkigoplmaaaGreatDoor
namespace Go.Proofs.YtonhpkigoplmaaaGreatDoor
open Go.RowKit

/-- What around gives: two ends and an error. -/
def aroundN (a b : Bool × Nat × Int) : Nat × Nat × Nat :=
  if (roundN a.1 a.2.1 a.2.2 (-1)).2 = true ∧ (roundN b.1 b.2.1 b.2.2 1).2 = true then ((roundN a.1 a.2.1 a.2.2 (-1)).1, (roundN b.1 b.2.1 b.2.2 1).1, 0) else (0, 0, 3)

/-- Numbers that around can take. -/
def Small (x : Bool × Nat × Int) : Prop := bl x.2.1 ≤ 100000 ∧ -200000 ≤ x.2.2 ∧ x.2.2 ≤ 200000

/-- A Num by its three parts. -/
def NumT (w : World) (v : Value) (x : Bool × Nat × Int) : Prop := NumV w v x.1 x.2.1 x.2.2

end Go.Proofs.YtonhpkigoplmaaaGreatDoor
namespace Go.Proofs.YtonhpkigoplmaaaGreatDoor
open Go.RowKit

/-- A whole number. -/
def wholeN (n : Int) : Bool × Nat × Int := (decide (n < 0), n.natAbs, 0)

set_option maxHeartbeats 400000 in
theorem whole_any (n : Int) (w : World) (h1 : -9223372036854775808 ≤ n) (h2 : n < 9223372036854775808) :
    Calls Tryz.prog 78 #[.int .i64 n] w fun e w' => ∃ x, e = .returned x ∧ NumT w' x (wholeN n) ∧ Below w.heap.size w w' := by
  by_cases hn : 0 ≤ n
  · obtain ⟨m, rfl⟩ := Int.eq_ofNat_of_zero_le hn
    have HE : Hid (wholeN (m : Int) = (false, m, 0)) := by show _ = _; unfold wholeN; rw [decide_eq_false (by omega)]; rfl
    clear hn
    go_enter Tryz.func78, Tryz.ntmps78
    go_wp2_with fail
    refine (nat_any m _ (by omega)).mono ?_
    rintro ev w1 ⟨v1, rfl, hN1, hb1⟩
    obtain ⟨ao1, la1, ca1, rfl, HL1⟩ := hN1.slice2
    have B0 := blk_below (blk_new w _) hb1
    have HbA : Hid (Below w.heap.size w w1) := ((Below.refl _ _).alloc (Nat.le_refl _) _).trans (hb1.mono (by simp))
    obtain ⟨k00, k01, k02, k03, k04, k05⟩ := blk3 B0
    have HBX : Hid (BoxT w1 w.heap.size 92) := BoxT.of B0
    have HN1 : Hid (NatV w1 _ _) := hN1
    clear B0 hb1 hN1
    go_wp2
    refine bodyPost_ret (v := .agg #[.bool false, .slice ao1 la1 ca1, .int .i64 0]) (by simp [results, Tryz.results78, go_sem, k00, k01, k02]) rfl ?_
    refine ⟨_, rfl, ?_, ?_⟩
    · rw [HE.out]
      refine ⟨_, _, _, rfl, HL1.out, HN1.out.keeps ?_⟩
      repeat refine Keeps.set ?_ (t := 92) (by (repeat refine BoxT.set ?_); exact HBX.out) (by decide)
      exact Keeps.refl _
    · repeat refine Below.setCell ?_ (by simp) _
      exact HbA.out
  · obtain ⟨m, hm⟩ : ∃ m : Nat, -(n + 1) = (m : Int) := ⟨(-n - 1).toNat, by omega⟩
    have HE : Hid (wholeN n = (true, m + 1, 0)) := by show _ = _; unfold wholeN; rw [decide_eq_true (by omega), show n.natAbs = m + 1 by omega]
    have HM : Hid (m < 9223372036854775808) := by show _ < _; omega
    have hn : n < 0 := by omega
    go_enter Tryz.func78, Tryz.ntmps78
    go_wp2_with fail
    refine (nat_any m _ HM.out).mono ?_
    rintro ev w1 ⟨v1, rfl, hN1, hb1⟩
    obtain ⟨ao1, la1, ca1, rfl, HL1⟩ := hN1.slice2
    have B0 := blk_below (blk_new w _) hb1
    have hbA : Below w.heap.size w w1 := ((Below.refl _ _).alloc (Nat.le_refl _) _).trans (hb1.mono (by simp))
    have hlm : (digits m).length ≤ 1000000 := by have := len_of_lt2 (n := m) (k := 63) (by have := HM.out; omega); omega
    have HLM : Hid ((digits m).length ≤ 1000000) := hlm
    have HN1 : Hid (NatV w1 _ _) := hN1
    have HB0 : Hid (w1.heap[w.heap.size]? = _) := B0
    have HbA : Hid (Below w.heap.size w w1) := hbA
    clear B0 hb1 hN1 hbA hlm
    go_wp2_with fail
    refine (nat_any 1 _ (by omega)).mono ?_
    rintro ev w2 ⟨v2, rfl, hN2, hb2⟩
    obtain ⟨ao2, la2, ca2, rfl, HL2⟩ := hN2.slice2
    have HN2 : Hid (NatV w2 _ 1) := hN2
    have HBa : Hid (Below _ w1 w2) := hb2
    clear hb2 hN2
    go_wp2_with fail
    refine (plus_any m 1 _ _ _ (HN1.out.below HBa.out (Nat.le_refl _)) HN2.out HLM.out (by decide)).mono ?_
    rintro ev w3 ⟨v3, rfl, hN3, hb3⟩
    obtain ⟨ao3, la3, ca3, rfl, HL3⟩ := hN3.slice2
    have B3 := blk_below (blk_below HB0.out HBa.out) hb3
    have HbB : Hid (Below w.heap.size w w3) := (HbA.out.trans (HBa.out.mono HbA.out.size)).trans (hb3.mono (HbA.out.trans (HBa.out.mono HbA.out.size)).size)
    obtain ⟨k00, k01, k02, k03, k04, k05⟩ := blk3 B3
    have HBX : Hid (BoxT w3 w.heap.size 92) := BoxT.of B3
    have HN3 : Hid (NatV w3 _ _) := hN3
    clear B3 hb3 hN3 HB0
    go_wp2
    refine bodyPost_ret (v := .agg #[.bool true, .slice ao3 la3 ca3, .int .i64 0]) (by simp [results, Tryz.results78, go_sem, k00, k01, k02]) rfl ?_
    refine ⟨_, rfl, ?_, ?_⟩
    · rw [HE.out]
      refine ⟨_, _, _, rfl, HL3.out, HN3.out.keeps ?_⟩
      repeat refine Keeps.set ?_ (t := 92) (by (repeat refine BoxT.set ?_); exact HBX.out) (by decide)
      exact Keeps.refl _
    · repeat refine Below.setCell ?_ (by simp) _
      exact HbB.out

/-- What Exact gives. -/
def refExactN (k x : Int) : Nat × Nat × Nat :=
  if k = 0 ∨ k = 2 then aroundN (wholeN x) (wholeN x)
  else if k = 1 ∨ k = 4 then aroundN (wholeN (wrap32 x)) (wholeN (wrap32 x))
  else if k = 3 ∨ k = 5 then
    (if (plainN (x % 18446744073709551616).toNat).isSome = true then aroundN ((plainN (x % 18446744073709551616).toNat).getD (false, 0, 0)) ((plainN (x % 18446744073709551616).toNat).getD (false, 0, 0)) else (0, 0, 1))
  else (0, 0, 0)

theorem bl_le {n k : Nat} (h : n < 2 ^ k) : bl n ≤ k := by
  rcases Nat.eq_zero_or_pos n with h0 | h0
  · subst h0; rw [bl_zero]; omega
  · obtain ⟨b1, b2, b3⟩ := bl_bounds h0
    have := (Nat.pow_lt_pow_iff_right (by decide : 1 < 2)).1 (Nat.lt_of_le_of_lt b1 h)
    omega

theorem whole_small {n : Int} (h1 : -9223372036854775808 ≤ n) (h2 : n < 9223372036854775808) : Small (wholeN n) := by
  refine ⟨?_, by simp [wholeN], by simp [wholeN]⟩
  have := bl_le (n := n.natAbs) (k := 64) (by omega)
  simp only [wholeN]
  omega

end Go.Proofs.YtonhpkigoplmaaaGreatDoor
namespace Go.Proofs.YtonhpkigoplmaaaGreatDoor
open Go.RowKit

/-- The word of a rung within the plain floats. -/
def rngW (s : Bool) (r : Int) : Nat × Bool := if 553942754166571008 ≤ r ∧ r ≤ 8660422083433463808 then (r.toNat + (if s then 9223372036854775808 else 0), true) else (0, false)

theorem packN_rung (s : Bool) {m : Nat} {e : Int} (h1 : 4503599627370496 ≤ m) (h2 : m < 9007199254740992) : packN s m e = rngW s ((e + 1074) * 4503599627370496 + m) := by
  unfold packN rngW
  by_cases h : e + 1075 < 123 ∨ 1923 < e + 1075 ∨ (e + 1075 = 1923 ∧ 4503599627370496 < m)
  · rw [if_pos h, if_neg (by omega)]
  · have hc : 553942754166571008 ≤ (e + 1074) * 4503599627370496 + (m : Int) ∧ (e + 1074) * 4503599627370496 + (m : Int) ≤ 8660422083433463808 := by omega
    rw [if_neg h, if_pos hc]
    have : m - 4503599627370496 + (e + 1075).toNat * 4503599627370496 = ((e + 1074) * 4503599627370496 + (m : Int)).toNat := by omega
    rw [this]

/-- The first 53 bits of a number; is something left? -/
def mf (n : Nat) : Nat := if bl n ≤ 53 then n * 2 ^ (53 - bl n) else n / 2 ^ (bl n - 53)
def inex (n : Nat) : Bool := decide (53 < bl n ∧ n % 2 ^ (bl n - 53) ≠ 0)

/-- The rung of n * 2 ^ e, towards 0. -/
def rung (n : Nat) (e : Int) : Int := (e + bl n + 1021) * 4503599627370496 + mf n

theorem mf_bounds {n : Nat} (h0 : 0 < n) : 4503599627370496 ≤ mf n ∧ mf n < 9007199254740992 := by
  unfold mf
  split
  · exact short_bounds h0 (by assumption)
  · exact long_bounds (by omega)

theorem roundN_rung (s : Bool) {n : Nat} (e way : Int) (h0 : n ≠ 0) : roundN s n e way = rngW s (rung n e + if offS s way && inex n then 1 else 0) := by
  have hb := mant_bounds (offS s way) (Nat.pos_of_ne_zero h0)
  unfold roundN
  rw [if_neg h0, packN_rung s hb.1 hb.2]
  congr 1
  generalize offS s way = o
  unfold rung inex mf mant
  by_cases h : bl n ≤ 53
  · simp only [h, if_true, show ¬ 53 < bl n by omega, false_and, decide_false, Bool.and_false, Bool.false_eq_true, if_false]
    omega
  · simp only [h, if_false]
    by_cases hz : n % 2 ^ (bl n - 53) = 0
    · simp only [hz, ne_eq, not_true_eq_false, and_false, if_false, decide_false, Bool.and_false, Bool.false_eq_true]
      omega
    · simp only [hz, ne_eq, not_false_eq_true, and_true, show 53 < bl n by omega, decide_true, Bool.and_true]
      cases o
      · simp only [Bool.false_eq_true, if_false]; omega
      · simp only [if_true]
        split <;> simp only <;> omega

/-- Does the nearest float lie above in amount? -/
def nup (n : Nat) : Bool := decide (53 < bl n) && (decide (2 ^ (bl n - 53) < 2 * (n % 2 ^ (bl n - 53))) || (2 ^ (bl n - 53) == 2 * (n % 2 ^ (bl n - 53)) && (n / 2 ^ (bl n - 53)) % 2 == 1))

theorem bl_log2 {n : Nat} (h : n ≠ 0) : bl n = n.log2 + 1 := by unfold bl; rw [if_neg h]

theorem nearest_rung (s : Bool) {n : Nat} {e : Int} (h0 : n ≠ 0) (h1 : -1021 ≤ e + bl n) (h2 : e + bl n ≤ 1023) :
    Ieee.double.nearest s n e = (rung n e + if nup n then 1 else 0).toNat + (if s then 9223372036854775808 else 0) := by
  have hb := mf_bounds (Nat.pos_of_ne_zero h0)
  have hl := bl_log2 h0
  have hlp : Ieee.double.leastPlace = -1074 := by decide
  have hfb : Ieee.double.fractionBits = 52 := rfl
  have hbi : Ieee.double.binade = 4503599627370496 := by decide
  have hin : Ieee.double.infRung = 9218868437227405312 := by decide
  have hsw : Ieee.double.signWeight = 9223372036854775808 := by decide
  unfold Ieee.Format.nearest
  rw [if_neg h0]
  simp only [hlp, hfb, hbi, hin]
  have hlast : max (e + (n.log2 : Int) - ((52 : Nat) : Int)) (-1074) = e + bl n - 53 := by omega
  rw [hlast]
  have hcut : Ieee.Toward.even.cut s (n <<< (e - (e + (bl n : Int) - 53)).toNat) (e + (bl n : Int) - 53 - e).toNat = mf n + (if nup n then 1 else 0) := by
    rw [show (e - (e + (bl n : Int) - 53)).toNat = 53 - bl n by omega, show (e + (bl n : Int) - 53 - e).toNat = bl n - 53 by omega]
    unfold Ieee.Toward.cut
    by_cases h : bl n ≤ 53
    · have : bl n - 53 = 0 := by omega
      simp only [this, Nat.zero_min, Nat.shiftLeft_zero, Nat.div_one, Nat.mod_one]
      unfold nup mf
      rw [if_pos h]
      simp [show ¬ 53 < bl n by omega, Nat.shiftLeft_eq]
    · have e1 : 53 - bl n = 0 := by omega
      have e2 : min (bl n - 53) (n.log2 + 2) = bl n - 53 := by omega
      simp only [e1, Nat.shiftLeft_zero, e2, Nat.one_shiftLeft]
      unfold nup mf
      rw [if_neg h]
      rw [decide_eq_true (show 53 < bl n by omega), Bool.true_and]
      generalize (decide (2 ^ (bl n - 53) < 2 * (n % 2 ^ (bl n - 53))) || (2 ^ (bl n - 53) == 2 * (n % 2 ^ (bl n - 53)) && (n / 2 ^ (bl n - 53)) % 2 == 1)) = b
      cases b <;> rfl
  rw [hcut]
  have hk : (if nup n = true then (1 : Nat) else 0) ≤ 1 := by split <;> omega
  have hk2 : ((if nup n = true then (1 : Int) else 0)) = (((if nup n = true then (1 : Nat) else 0) : Nat) : Int) := by split <;> rfl
  rw [hk2]
  generalize (if nup n = true then (1 : Nat) else 0) = k at *
  have hr : rung n e = (e + bl n + 1021) * 4503599627370496 + mf n := rfl
  rw [hr]
  generalize mf n = m at *
  generalize bl n = B at *
  unfold Ieee.Format.word
  rw [hsw]
  obtain ⟨T, hT⟩ : ∃ T : Nat, e + B + 1021 = (T : Int) := ⟨(e + B + 1021).toNat, by omega⟩
  rw [show e + (B : Int) - 53 - -1074 = (T : Int) by omega, hT, Int.toNat_natCast]
  have hT2 : T ≤ 2044 := by omega
  have hcast : (T : Int) * 4503599627370496 + (m : Int) + (k : Int) = ((T * 4503599627370496 + (m + k) : Nat) : Int) := by
    rw [Int.natCast_add, Int.natCast_mul, Int.natCast_add, Int.add_assoc]; rfl
  rw [hcast, Int.toNat_natCast, Nat.min_eq_left (by omega)]
  cases s
  · rw [if_neg Bool.false_ne_true, if_neg Bool.false_ne_true, Nat.add_zero]
  · rw [if_pos rfl, if_pos rfl, Nat.add_comm]
end Go.Proofs.YtonhpkigoplmaaaGreatDoor
namespace Go.Proofs.YtonhpkigoplmaaaGreatDoor
open Go.RowKit Go.Extern Ieee

/-- The word of a sign and a rung. -/
def wd (s : Bool) (r : Nat) : Nat := r + (if s then 9223372036854775808 else 0)

theorem wd_lt {s : Bool} {r : Nat} (h : r < 9223372036854775808) : wd s r < 18446744073709551616 := by
  unfold wd; split <;> omega

theorem read_wd {s : Bool} {r : Nat} (h : r < 9218868437227405312) (h0 : 0 < r) : ∃ n e, 0 < n ∧ double.read (wd s r) = .number s n e := by
  have hsw : double.signWeight = 9223372036854775808 := rfl
  have hbn : double.binade = 4503599627370496 := rfl
  have hir : double.infRung = 9218868437227405312 := rfl
  have hlp : double.leastPlace = -1074 := rfl
  have hm : wd s r % 9223372036854775808 = r := by unfold wd; split <;> omega
  have hd : (wd s r / 9223372036854775808 % 2 == 1) = s := by
    unfold wd
    cases s
    · rw [if_neg Bool.false_ne_true, show (r + 0) / 9223372036854775808 % 2 = 0 by omega]; rfl
    · rw [if_pos rfl, show (r + 9223372036854775808) / 9223372036854775808 % 2 = 1 by omega]; rfl
  unfold Format.read
  simp only [hsw, hbn, hir, hlp, hm, hd]
  by_cases hs : r < 4503599627370496
  · rw [if_pos hs]; exact ⟨_, _, h0, rfl⟩
  · rw [if_neg hs, if_pos h]; exact ⟨_, _, by omega, rfl⟩

theorem ord_self {s : Bool} {r : Nat} (h : r < 9218868437227405312) (h0 : 0 < r) : (FloatKind.f64.format.order (wd s r) (wd s r) == some Ordering.eq) = true := by
  obtain ⟨n, e, hn, hr⟩ := read_wd (s := s) h h0
  show (double.order _ _ == _) = _
  unfold Format.order
  rw [hr]
  simp only [Datum.order]
  rw [cmp_eq' rfl]; rfl

theorem ord_zero {s : Bool} {r : Nat} (h : r < 9218868437227405312) (h0 : 0 < r) : FloatKind.f64.format.order (wd s r) 0 = some (if s then .lt else .gt) := by
  obtain ⟨n, e, hn, hr⟩ := read_wd (s := s) h h0
  show double.order _ _ = _
  unfold Format.order
  have hz : double.read 0 = .number false 0 (-1074) := rfl
  rw [hr, hz]
  simp only [Datum.order, signed_eq, Nat.zero_mul, sg_zero]
  have hpos : 0 < n * 2 ^ (e - min e (-1074)).toNat := Nat.mul_pos hn (Nat.two_pow_pos _)
  generalize n * 2 ^ (e - min e (-1074)).toNat = m at *
  cases s
  · rw [cmp_gt' (by simp [sg]; omega)]; rfl
  · rw [cmp_lt' (by simp [sg]; omega)]; rfl

theorem ord_inf {s : Bool} {r : Nat} (h : r < 9218868437227405312) (h0 : 0 < r) : FloatKind.f64.format.order (wd s r) 9218868437227405312 = some .lt ∧ FloatKind.f64.format.order 9218868437227405312 (wd s r) = some .gt := by
  obtain ⟨n, e, hn, hr⟩ := read_wd (s := s) h h0
  show double.order _ _ = _ ∧ double.order _ _ = _
  unfold Format.order
  rw [hr, read_inf]
  exact ⟨rfl, rfl⟩

theorem read_ninf : double.read 18442240474082181120 = .infinity true := rfl

theorem ord_ninf {s : Bool} {r : Nat} (h : r < 9218868437227405312) (h0 : 0 < r) : FloatKind.f64.format.order (wd s r) 18442240474082181120 = some .gt ∧ FloatKind.f64.format.order 18442240474082181120 (wd s r) = some .lt := by
  obtain ⟨n, e, hn, hr⟩ := read_wd (s := s) h h0
  show double.order _ _ = _ ∧ double.order _ _ = _
  unfold Format.order
  rw [hr, read_ninf]
  exact ⟨rfl, rfl⟩

theorem ord_inf_self : (FloatKind.f64.format.order 9218868437227405312 9218868437227405312 == some Ordering.eq) = true := rfl
theorem ord_ninf_self : (FloatKind.f64.format.order 18442240474082181120 18442240474082181120 == some Ordering.eq) = true := rfl

theorem isNaN_any (b : Nat) (w : World) (h : (FloatKind.f64.format.order b b == some Ordering.eq) = true) : Calls Tryz.prog 180 #[.float .f64 b] w fun e w' => e = .returned (.bool false) ∧ w' = w := by
  go_enter Tryz.func180, Tryz.ntmps180
  go_wp2
  go_ret
  refine ⟨?_, rfl⟩
  show Ending.returned (.bool (_ != _)) = _
  rw [bne, h]; rfl

theorem inf_up (w : World) : Calls Tryz.prog 173 #[.int .i64 1] w fun e w' => e = .returned (.float .f64 9218868437227405312) ∧ w' = w := by
  have h93 := @run_callFunc_extern Tryz.prog 113 _ MathFloatBits.float64frombits Tryz.func113 (by kernel_rfl) (by kernel_rfl) (by kernel_rfl) (by kernel_rfl)
  have cf : ∀ w, (MathFloatBits.float64frombits #[.int .u64 9218868437227405312]).run Tryz.prog w = .ok (.float .f64 9218868437227405312) w := fun w => c_from 9218868437227405312 w
  go_enter Tryz.func173, Tryz.ntmps173
  go_wp2
  go_ret
  exact ⟨rfl, rfl⟩

theorem inf_down (w : World) : Calls Tryz.prog 173 #[.int .i64 (-1)] w fun e w' => e = .returned (.float .f64 18442240474082181120) ∧ w' = w := by
  have h93 := @run_callFunc_extern Tryz.prog 113 _ MathFloatBits.float64frombits Tryz.func113 (by kernel_rfl) (by kernel_rfl) (by kernel_rfl) (by kernel_rfl)
  have cf : ∀ w, (MathFloatBits.float64frombits #[.int .u64 18442240474082181120]).run Tryz.prog w = .ok (.float .f64 18442240474082181120) w := fun w => c_from 18442240474082181120 w
  go_enter Tryz.func173, Tryz.ntmps173
  go_wp2
  go_ret
  exact ⟨rfl, rfl⟩

/-- The float next to one that is not 0: farther off 0, or nearer to it. -/
theorem next_any (s u : Bool) (r y : Nat) (w : World) (h : r < 9218868437227405312) (h0 : 0 < r) (hy : y = if u then 9218868437227405312 else 18442240474082181120) :
    Calls Tryz.prog 172 #[.float .f64 (wd s r), .float .f64 y] w fun e w' => e = .returned (.float .f64 (wd s (if s = u then r - 1 else r + 1))) ∧ w' = w := by
  have h89 := @run_callFunc_extern Tryz.prog 99 _ MathFloatBits.float64bits Tryz.func99 (by kernel_rfl) (by kernel_rfl) (by kernel_rfl) (by kernel_rfl)
  have h93 := @run_callFunc_extern Tryz.prog 113 _ MathFloatBits.float64frombits Tryz.func113 (by kernel_rfl) (by kernel_rfl) (by kernel_rfl) (by kernel_rfl)
  have cb := c_bits (wd s r)
  have cu : Hid (∀ w, (MathFloatBits.float64frombits #[.int .u64 ((wd s r : Int) + 1)]).run Tryz.prog w = .ok (.float .f64 (wd s (r + 1))) w) := by
    intro w
    rw [show (wd s r : Int) + 1 = ((wd s (r + 1) : Nat) : Int) by unfold wd; omega]
    exact c_from _ w
  have cd : Hid (∀ w, (MathFloatBits.float64frombits #[.int .u64 ((wd s r : Int) - 1)]).run Tryz.prog w = .ok (.float .f64 (wd s (r - 1))) w) := by
    intro w
    rw [show (wd s r : Int) - 1 = ((wd s (r - 1) : Nat) : Int) by unfold wd; omega]
    exact c_from _ w
  have hN := ord_self (s := s) h h0
  have hz := ord_zero (s := s) h h0
  have hi := ord_inf (s := s) h h0
  have hni := ord_ninf (s := s) h h0
  have hb1 : wd s r < 18446744073709551615 := by unfold wd; split <;> omega
  have hb2 : 0 < wd s r := by unfold wd; split <;> omega
  have HN : Hid ((FloatKind.f64.format.order (wd s r) (wd s r) == some Ordering.eq) = true) := hN
  clear hN h h0
  generalize wd s r = b at *
  cases u
  · obtain rfl : y = 18442240474082181120 := hy
    obtain ⟨e1, e2⟩ := hni
    clear hi
    go_enter Tryz.func172, Tryz.ntmps172
    go_wp2_with fail
    refine (isNaN_any b w HN.out).mono ?_
    rintro e w' ⟨rfl, rfl⟩
    go_wp2_with fail
    refine (isNaN_any _ _ ord_ninf_self).mono ?_
    rintro e w' ⟨rfl, rfl⟩
    cases s
    · have hz0 : FloatKind.f64.format.order b 0 = some Ordering.gt := hz
      have cu := cu.out
      have cd := cd.out
      clear hz
      go_wp2
      go_ret
      exact ⟨rfl, rfl⟩
    · have hz0 : FloatKind.f64.format.order b 0 = some Ordering.lt := hz
      have cu := cu.out
      have cd := cd.out
      clear hz
      go_wp2
      go_ret
      exact ⟨rfl, rfl⟩
  · obtain rfl : y = 9218868437227405312 := hy
    obtain ⟨e1, e2⟩ := hi
    clear hni
    go_enter Tryz.func172, Tryz.ntmps172
    go_wp2_with fail
    refine (isNaN_any b w HN.out).mono ?_
    rintro e w' ⟨rfl, rfl⟩
    go_wp2_with fail
    refine (isNaN_any _ _ ord_inf_self).mono ?_
    rintro e w' ⟨rfl, rfl⟩
    cases s
    · have hz0 : FloatKind.f64.format.order b 0 = some Ordering.gt := hz
      have cu := cu.out
      have cd := cd.out
      clear hz
      go_wp2
      go_ret
      exact ⟨rfl, rfl⟩
    · have hz0 : FloatKind.f64.format.order b 0 = some Ordering.lt := hz
      have cu := cu.out
      have cd := cd.out
      clear hz
      go_wp2
      go_ret
      exact ⟨rfl, rfl⟩
end Go.Proofs.YtonhpkigoplmaaaGreatDoor
namespace Go.Proofs.YtonhpkigoplmaaaGreatDoor
open Go.RowKit Go.Extern Ieee
attribute [local go_sem] run_store_float

theorem aroundF_eq (b q : Nat) (w : World) (hq : FloatKind.f64.format.order q 0 = some .eq) :
    Calls Tryz.prog 141 #[.float .f64 b, .float .f64 q] w fun e w' => e = .returned (.agg #[.float .f64 b, .float .f64 b]) ∧ Below w.heap.size w w' := by
  go_enter Tryz.func141, Tryz.ntmps141
  go_wp2
  refine bodyPost_ret (v := .agg #[.float .f64 b, .float .f64 b]) (by simp [results, Tryz.results141, go_sem]) rfl ?_
  exact ⟨rfl, (Below.refl _ _).alloc (Nat.le_refl _) _⟩

theorem aroundF_pos (s : Bool) (r q : Nat) (w : World) (hq : FloatKind.f64.format.order q 0 = some .gt) (h : r < 9218868437227405312) (h0 : 0 < r) :
    Calls Tryz.prog 141 #[.float .f64 (wd s r), .float .f64 q] w fun e w' => e = .returned (.agg #[.float .f64 (wd s r), .float .f64 (wd s (if s = true then r - 1 else r + 1))]) ∧ Below w.heap.size w w' := by
  have HN : Hid (∀ w, Calls Tryz.prog 172 #[.float .f64 (wd s r), .float .f64 9218868437227405312] w fun e w' => e = .returned (.float .f64 (wd s (if s = true then r - 1 else r + 1))) ∧ w' = w) := fun w => next_any s true r _ w h h0 rfl
  generalize wd s (if s = true then r - 1 else r + 1) = c at *
  generalize wd s r = b at *
  go_enter Tryz.func141, Tryz.ntmps141
  go_wp2_with fail
  refine (inf_up _).mono ?_
  rintro e w' ⟨rfl, rfl⟩
  go_wp2_with fail
  refine Calls.mono (HN.out _) ?_
  rintro e w' ⟨rfl, rfl⟩
  go_wp2
  refine bodyPost_ret (v := .agg #[.float .f64 b, .float .f64 c]) (by simp [results, Tryz.results141, go_sem]) rfl ?_
  exact ⟨rfl, by (repeat refine Below.setCell ?_ (by simp) _); exact (Below.refl _ _).alloc (Nat.le_refl _) _⟩

theorem aroundF_neg (s : Bool) (r q : Nat) (w : World) (hq : FloatKind.f64.format.order q 0 = some .lt) (h : r < 9218868437227405312) (h0 : 0 < r) :
    Calls Tryz.prog 141 #[.float .f64 (wd s r), .float .f64 q] w fun e w' => e = .returned (.agg #[.float .f64 (wd s (if s = false then r - 1 else r + 1)), .float .f64 (wd s r)]) ∧ Below w.heap.size w w' := by
  have HN : Hid (∀ w, Calls Tryz.prog 172 #[.float .f64 (wd s r), .float .f64 18442240474082181120] w fun e w' => e = .returned (.float .f64 (wd s (if s = false then r - 1 else r + 1))) ∧ w' = w) := fun w => next_any s false r _ w h h0 rfl
  generalize wd s (if s = false then r - 1 else r + 1) = c at *
  generalize wd s r = b at *
  go_enter Tryz.func141, Tryz.ntmps141
  go_wp2_with fail
  refine (inf_down _).mono ?_
  rintro e w' ⟨rfl, rfl⟩
  go_wp2_with fail
  refine Calls.mono (HN.out _) ?_
  rintro e w' ⟨rfl, rfl⟩
  go_wp2
  refine bodyPost_ret (v := .agg #[.float .f64 c, .float .f64 b]) (by simp [results, Tryz.results141, go_sem]) rfl ?_
  exact ⟨rfl, by (repeat refine Below.setCell ?_ (by simp) _); exact (Below.refl _ _).alloc (Nat.le_refl _) _⟩
end Go.Proofs.YtonhpkigoplmaaaGreatDoor
namespace Go.Proofs.YtonhpkigoplmaaaGreatDoor
open Go.RowKit Go.Extern Ieee
attribute [local go_sem] run_store_float

theorem sumF_any (x y near taken t1 t2 t3 q lo hi : Nat) (w : World) (h1 : double.add x y = some near) (h2 : double.sub near x = some taken) (h3 : double.sub near taken = some t1) (h4 : double.sub x t1 = some t2) (h5 : double.sub y taken = some t3) (h6 : double.add t2 t3 = some q)
    (hA : ∀ w, Calls Tryz.prog 141 #[.float .f64 near, .float .f64 q] w fun e w' => e = .returned (.agg #[.float .f64 lo, .float .f64 hi]) ∧ Below w.heap.size w w') :
    Calls Tryz.prog 89 #[.float .f64 x, .float .f64 y] w fun e w' => e = .returned (.agg #[.float .f64 lo, .float .f64 hi]) ∧ Below w.heap.size w w' := by
  have g1 : ∀ w, (binOp .add 65 (.float .f64 x) (.float .f64 y)).run Tryz.prog w = .ok (.float .f64 near) w := fun w => run_float_arith w .add _ .f64 x y near h1
  have g2 : ∀ w, (binOp .sub 65 (.float .f64 near) (.float .f64 x)).run Tryz.prog w = .ok (.float .f64 taken) w := fun w => run_float_arith w .sub _ .f64 near x taken h2
  have g3 : ∀ w, (binOp .sub 65 (.float .f64 near) (.float .f64 taken)).run Tryz.prog w = .ok (.float .f64 t1) w := fun w => run_float_arith w .sub _ .f64 near taken t1 h3
  have g4 : ∀ w, (binOp .sub 65 (.float .f64 x) (.float .f64 t1)).run Tryz.prog w = .ok (.float .f64 t2) w := fun w => run_float_arith w .sub _ .f64 x t1 t2 h4
  have g5 : ∀ w, (binOp .sub 65 (.float .f64 y) (.float .f64 taken)).run Tryz.prog w = .ok (.float .f64 t3) w := fun w => run_float_arith w .sub _ .f64 y taken t3 h5
  have g6 : ∀ w, (binOp .add 65 (.float .f64 t2) (.float .f64 t3)).run Tryz.prog w = .ok (.float .f64 q) w := fun w => run_float_arith w .add _ .f64 t2 t3 q h6
  have HA : Hid (∀ w, Calls Tryz.prog 141 #[.float .f64 near, .float .f64 q] w fun e w' => e = .returned (.agg #[.float .f64 lo, .float .f64 hi]) ∧ Below w.heap.size w w') := hA
  clear h1 h2 h3 h4 h5 h6 hA
  go_enter Tryz.func89, Tryz.ntmps89
  go_wp2_with fail
  refine Calls.mono (HA.out _) ?_
  rintro e w1 ⟨rfl, hb1⟩
  have B0 := blk_below (blk_new w _) hb1
  obtain ⟨k0, k1, k2, k3⟩ := blk2 B0
  have HB1 : Hid (Below w.heap.size w w1) := ((Below.refl _ _).alloc (Nat.le_refl _) _).trans (hb1.mono (by simp))
  clear hb1 B0 HA
  go_wp2
  refine bodyPost_ret (v := .agg #[.float .f64 lo, .float .f64 hi]) (by simp [results, Tryz.results89, go_sem, k0, k1]) rfl ?_
  exact ⟨rfl, (HB1.out.setCell (by simp) _).setCell (by simp) _⟩
end Go.Proofs.YtonhpkigoplmaaaGreatDoor
namespace Go.Proofs.YtonhpkigoplmaaaGreatDoor
open Go.RowKit Go.Extern Ieee

theorem bl_shift {n : Nat} (h : n ≠ 0) (k : Nat) : bl (n * 2 ^ k) = bl n + k := by
  obtain ⟨b1, b2, b3⟩ := bl_bounds (Nat.pos_of_ne_zero h)
  refine bl_of ?_ ?_ (by omega)
  · rw [show bl n + k - 1 = (bl n - 1) + k by omega, Nat.pow_add]
    exact Nat.mul_le_mul_right _ b1
  · rw [Nat.pow_add]
    exact Nat.mul_lt_mul_of_pos_right b2 (Nat.two_pow_pos _)

theorem mul_pow_div (n a b : Nat) : n * 2 ^ (a + b) / 2 ^ b = n * 2 ^ a := by
  rw [Nat.pow_add, ← Nat.mul_assoc, Nat.mul_div_cancel _ (Nat.two_pow_pos _)]

theorem mf_shift {n : Nat} (h : n ≠ 0) (k : Nat) : mf (n * 2 ^ k) = mf n := by
  unfold mf
  rw [bl_shift h]
  by_cases h1 : bl n + k ≤ 53
  · rw [if_pos h1, if_pos (by omega), Nat.mul_assoc, ← Nat.pow_add]; congr 2; omega
  · rw [if_neg h1]
    by_cases h2 : bl n ≤ 53
    · rw [if_pos h2]
      have := mul_pow_div n (53 - bl n) (bl n + k - 53)
      rwa [show 53 - bl n + (bl n + k - 53) = k by omega] at this
    · rw [if_neg h2, show bl n + k - 53 = (bl n - 53) + k by omega, Nat.pow_add, Nat.mul_div_mul_right _ _ (Nat.two_pow_pos _)]

theorem nup_shift {n : Nat} (h : n ≠ 0) (k : Nat) : nup (n * 2 ^ k) = nup n := by
  unfold nup
  rw [bl_shift h]
  by_cases h2 : bl n ≤ 53
  · rw [decide_eq_false (show ¬ 53 < bl n by omega), Bool.false_and]
    by_cases h1 : bl n + k ≤ 53
    · rw [decide_eq_false (by omega), Bool.false_and]
    · have hz : n * 2 ^ k % 2 ^ (bl n + k - 53) = 0 := by
        rw [show k = (53 - bl n) + (bl n + k - 53) by omega, Nat.pow_add, ← Nat.mul_assoc]
        rw [show bl n + (53 - bl n + (bl n + k - 53)) - 53 = bl n + k - 53 by omega]
        exact Nat.mul_mod_left _ _
      rw [hz]
      have hp := Nat.two_pow_pos (bl n + k - 53)
      have e1 : decide (2 ^ (bl n + k - 53) < 2 * 0) = false := decide_eq_false (by omega)
      have e2 : (2 ^ (bl n + k - 53) == 2 * 0) = false := by rw [beq_eq_false_iff_ne]; omega
      rw [e1, e2]; simp
  · rw [decide_eq_true (show 53 < bl n by omega), decide_eq_true (show 53 < bl n + k by omega)]
    rw [show bl n + k - 53 = (bl n - 53) + k by omega, Nat.pow_add, Nat.mul_div_mul_right _ _ (Nat.two_pow_pos _), Nat.mul_mod_mul_right]
    generalize n % 2 ^ (bl n - 53) = r
    generalize 2 ^ (bl n - 53) = g
    have hp := Nat.two_pow_pos k
    generalize 2 ^ k = t at *
    have e1 : decide (g * t < 2 * (r * t)) = decide (g < 2 * r) := by
      rw [← Nat.mul_assoc]; exact decide_eq_decide.2 (Nat.mul_lt_mul_right hp)
    have e2 : (g * t == 2 * (r * t)) = (g == 2 * r) := by
      rw [← Nat.mul_assoc, Bool.eq_iff_iff, beq_iff_eq, beq_iff_eq]; exact Nat.mul_right_cancel_iff hp
    rw [e1, e2]

theorem inex_shift {n : Nat} (h : n ≠ 0) (k : Nat) (hi : inex n = false) : inex (n * 2 ^ k) = false := by
  unfold inex at *
  rw [bl_shift h]
  rw [decide_eq_false_iff_not] at hi ⊢
  rintro ⟨h1, h2⟩
  apply h2
  by_cases hb : bl n ≤ 53
  · rw [show k = (53 - bl n) + (bl n + k - 53) by omega, Nat.pow_add, ← Nat.mul_assoc]
    rw [show bl n + (53 - bl n + (bl n + k - 53)) - 53 = bl n + k - 53 by omega]
    exact Nat.mul_mod_left _ _
  · rw [show bl n + k - 53 = (bl n - 53) + k by omega, Nat.pow_add, Nat.mul_mod_mul_right]
    have : n % 2 ^ (bl n - 53) = 0 := by
      apply Decidable.byContradiction
      intro hc
      exact hi ⟨by omega, hc⟩
    rw [this, Nat.zero_mul]

theorem nearest_shift (s : Bool) {n : Nat} {e : Int} (k : Nat) (h0 : n ≠ 0) (h1 : -1021 ≤ e + k + bl n) (h2 : e + k + bl n ≤ 1023) : double.nearest s (n * 2 ^ k) e = double.nearest s n (e + k) := by
  have hn : n * 2 ^ k ≠ 0 := Nat.mul_ne_zero h0 (Nat.pos_iff_ne_zero.1 (Nat.two_pow_pos k))
  have hb := bl_shift h0 k
  rw [nearest_rung s hn (by omega) (by omega), nearest_rung s h0 h1 h2, nup_shift h0]
  have : rung (n * 2 ^ k) e = rung n (e + k) := by
    unfold rung
    rw [mf_shift h0, hb]
    congr 2
    omega
  rw [this]

/-- One value, one nearest float. -/
theorem nearest_val (s : Bool) {n m : Nat} {e f c : Int} (hc1 : c ≤ e) (hc2 : c ≤ f) (hn : n ≠ 0) (h1 : -1021 ≤ e + bl n) (h2 : e + bl n ≤ 1023) (hv : n * 2 ^ (e - c).toNat = m * 2 ^ (f - c).toNat) : double.nearest s n e = double.nearest s m f := by
  have hm : m ≠ 0 := by
    rintro rfl
    rw [Nat.zero_mul] at hv
    rcases Nat.mul_eq_zero.1 hv with h | h
    · exact hn h
    · exact Nat.pos_iff_ne_zero.1 (Nat.two_pow_pos _) h
  have e1 := bl_shift hn (e - c).toNat
  have e2 := bl_shift hm (f - c).toNat
  rw [hv] at e1
  have a := nearest_shift s (n := n) (e := c) (e - c).toNat hn (by omega) (by omega)
  have b := nearest_shift s (n := m) (e := c) (f - c).toNat hm (by omega) (by omega)
  rw [show c + ((e - c).toNat : Int) = e by omega] at a
  rw [show c + ((f - c).toNat : Int) = f by omega] at b
  rw [← a, ← b, hv]
end Go.Proofs.YtonhpkigoplmaaaGreatDoor
namespace Go.Proofs.YtonhpkigoplmaaaGreatDoor
open Go.RowKit Go.Extern Ieee

/-- The float nearest to z * 2 ^ e. -/
def fd (e z : Int) : Nat := double.nearest (decide (z < 0)) z.natAbs e

/-- z * 2 ^ e is neither too small nor too great. -/
def Fits (e z : Int) : Prop := -1022 ≤ e ∧ e + bl z.natAbs ≤ 1023

/-- z * 2 ^ e is a float. -/
def Rep (z : Int) : Prop := inex z.natAbs = false

theorem fd_zero (e : Int) : fd e 0 = 0 := rfl

theorem nup_rep {n : Nat} (h : inex n = false) : nup n = false := by
  unfold inex at h
  unfold nup
  rw [decide_eq_false_iff_not] at h
  by_cases hb : 53 < bl n
  · have hz : n % 2 ^ (bl n - 53) = 0 := by
      apply Decidable.byContradiction
      intro hc
      exact h ⟨hb, hc⟩
    rw [hz]
    have hp := Nat.two_pow_pos (bl n - 53)
    have e1 : decide (2 ^ (bl n - 53) < 2 * 0) = false := decide_eq_false (by omega)
    have e2 : (2 ^ (bl n - 53) == 2 * 0) = false := by rw [beq_eq_false_iff_ne]; omega
    rw [e1, e2]; simp
  · rw [decide_eq_false hb, Bool.false_and]

theorem read_wd_norm {s : Bool} {T m : Nat} (h1 : 4503599627370496 ≤ m) (h2 : m < 9007199254740992) (hT : T ≤ 2044) : double.read (wd s (T * 4503599627370496 + m)) = .number s m ((T : Int) - 1074) := by
  have hsw : double.signWeight = 9223372036854775808 := rfl
  have hbn : double.binade = 4503599627370496 := rfl
  have hir : double.infRung = 9218868437227405312 := rfl
  have hlp : double.leastPlace = -1074 := rfl
  have hm : wd s (T * 4503599627370496 + m) % 9223372036854775808 = T * 4503599627370496 + m := by unfold wd; split <;> omega
  have hd : (wd s (T * 4503599627370496 + m) / 9223372036854775808 % 2 == 1) = s := by
    unfold wd
    cases s
    · rw [if_neg Bool.false_ne_true, show (T * 4503599627370496 + m + 0) / 9223372036854775808 % 2 = 0 by omega]; rfl
    · rw [if_pos rfl, show (T * 4503599627370496 + m + 9223372036854775808) / 9223372036854775808 % 2 = 1 by omega]; rfl
  unfold Format.read
  simp only [hsw, hbn, hir, hlp, hm, hd]
  rw [if_neg (by omega), if_pos (by omega)]
  congr 1
  · omega
  · omega

theorem fd_wd {e z : Int} (h0 : z ≠ 0) (hf : Fits e z) : fd e z = wd (decide (z < 0)) ((rung z.natAbs e + if nup z.natAbs then 1 else 0).toNat) := by
  have hn : z.natAbs ≠ 0 := by omega
  have hb := bl_pos (Nat.pos_of_ne_zero hn)
  have := hf.1
  have := hf.2
  unfold fd
  rw [nearest_rung _ hn (by omega) (by omega)]
  unfold wd
  cases decide (z < 0) <;> rfl

/-- A datum stands for z * 2 ^ e. -/
def Means (e z : Int) (s : Bool) (m : Nat) (p : Int) : Prop := ∀ c, c ≤ p → c ≤ e → sg s (m * 2 ^ (p - c).toNat) = z * ((2 ^ (e - c).toNat : Nat) : Int)

theorem read_fd {e z : Int} (hf : Fits e z) (hr : Rep z) : ∃ s m p, double.read (fd e z) = .number s m p ∧ Means e z s m p ∧ (z = 0 → s = false) ∧ (z ≠ 0 → s = decide (z < 0)) := by
  by_cases h0 : z = 0
  · subst h0
    refine ⟨false, 0, -1074, by rw [fd_zero]; rfl, ?_, fun _ => rfl, fun h => absurd rfl h⟩
    intro c _ _
    rw [Nat.zero_mul, Int.zero_mul]; rfl
  · have hn : z.natAbs ≠ 0 := by omega
    have hb := bl_pos (Nat.pos_of_ne_zero hn)
    have f1 := hf.1
    have f2 := hf.2
    obtain ⟨T, hT⟩ : ∃ T : Nat, e + bl z.natAbs + 1021 = (T : Int) := ⟨(e + bl z.natAbs + 1021).toNat, by omega⟩
    obtain ⟨m1, m2⟩ := mf_bounds (Nat.pos_of_ne_zero hn)
    have hfd : fd e z = wd (decide (z < 0)) (T * 4503599627370496 + mf z.natAbs) := by
      rw [fd_wd h0 hf, nup_rep hr]
      congr 1
      unfold rung
      rw [hT]
      have : (T : Int) * 4503599627370496 + (mf z.natAbs : Int) + (if false = true then 1 else 0) = ((T * 4503599627370496 + mf z.natAbs : Nat) : Int) := by
        rw [if_neg Bool.false_ne_true, Int.add_zero, Int.natCast_add, Int.natCast_mul]; rfl
      rw [this, Int.toNat_natCast]
    refine ⟨decide (z < 0), mf z.natAbs, (T : Int) - 1074, ?_, ?_, fun h => absurd h h0, fun _ => rfl⟩
    · rw [hfd]; exact read_wd_norm m1 m2 (by omega)
    · intro c hc1 hc2
      have hmag : mf z.natAbs * 2 ^ ((T : Int) - 1074 - c).toNat = z.natAbs * 2 ^ (e - c).toNat := by
        have hr' : inex z.natAbs = false := hr
        unfold inex at hr'
        rw [decide_eq_false_iff_not] at hr'
        unfold mf
        by_cases hb53 : bl z.natAbs ≤ 53
        · rw [if_pos hb53, Nat.mul_assoc, ← Nat.pow_add]; congr 2; omega
        · rw [if_neg hb53]
          have hz : z.natAbs % 2 ^ (bl z.natAbs - 53) = 0 := by
            apply Decidable.byContradiction
            intro hc
            exact hr' ⟨by omega, hc⟩
          have hd := Nat.div_add_mod z.natAbs (2 ^ (bl z.natAbs - 53))
          rw [hz, Nat.add_zero, Nat.mul_comm] at hd
          have : z.natAbs * 2 ^ (e - c).toNat = z.natAbs / 2 ^ (bl z.natAbs - 53) * 2 ^ (bl z.natAbs - 53) * 2 ^ (e - c).toNat := by rw [hd]
          rw [this, Nat.mul_assoc, ← Nat.pow_add]; congr 2; omega
      rw [hmag]
      unfold sg
      by_cases hz : z < 0
      · rw [decide_eq_true hz, if_pos rfl, Int.natCast_mul, show ((z.natAbs : Nat) : Int) = -z by omega, Int.neg_mul, Int.neg_neg]
      · rw [decide_eq_false hz, if_neg Bool.false_ne_true, Int.natCast_mul, show ((z.natAbs : Nat) : Int) = z by omega]

theorem Means.opp {e z : Int} {s : Bool} {m : Nat} {p : Int} (h : Means e z s m p) : Means e (-z) (!s) m p := by
  intro c h1 h2
  have := h c h1 h2
  rw [Int.neg_mul, ← this]
  unfold sg
  cases s
  · rfl
  · simp

theorem sg_natAbs {x : Int} {n : Nat} {s : Bool} (h : sg s n = x) : n = x.natAbs := by
  unfold sg at h
  cases s
  · rw [if_neg Bool.false_ne_true] at h; omega
  · rw [if_pos rfl] at h; omega

theorem sum_means {e x y : Int} {s t : Bool} {m n : Nat} {p q : Int} (hx : Means e x s m p) (hy : Means e y t n q) (hf : Fits e (x + y)) (hz : x + y = 0 → (s && t) = false) :
    (Datum.sum (.number s m p) (.number t n q)).map double.write = some (fd e (x + y)) := by
  simp only [Datum.sum, Option.map_some, Format.write, signed_eq]
  congr 1
  generalize hT : sg s (m * 2 ^ (p - min p q).toNat) + sg t (n * 2 ^ (q - min p q).toNat) = T
  have key : T * ((2 ^ (min p q - min (min p q) e).toNat : Nat) : Int) = (x + y) * ((2 ^ (e - min (min p q) e).toNat : Nat) : Int) := by
    have a := hx (min (min p q) e) (by omega) (by omega)
    have b := hy (min (min p q) e) (by omega) (by omega)
    rw [Int.add_mul, ← a, ← b, ← hT, Int.add_mul]
    have sgm : ∀ (s : Bool) (n k : Nat), sg s n * (k : Int) = sg s (n * k) := by
      intro s n k
      unfold sg
      cases s
      · rw [if_neg Bool.false_ne_true, if_neg Bool.false_ne_true, Int.natCast_mul]
      · rw [if_pos rfl, if_pos rfl, Int.natCast_mul, Int.neg_mul]
    rw [sgm, sgm, Nat.mul_assoc, Nat.mul_assoc, ← Nat.pow_add, ← Nat.pow_add]
    congr 4 <;> congr 1 <;> omega
  have hp1 : (0 : Int) < ((2 ^ (min p q - min (min p q) e).toNat : Nat) : Int) := by exact_mod_cast Nat.two_pow_pos _
  have hp2 : (0 : Int) < ((2 ^ (e - min (min p q) e).toNat : Nat) : Int) := by exact_mod_cast Nat.two_pow_pos _
  by_cases h0 : x + y = 0
  · have hT0 : T = 0 := by
      rw [h0, Int.zero_mul] at key
      rcases Int.mul_eq_zero.1 key with h | h
      · exact h
      · omega
    rw [if_pos hT0, hz h0, hT0, h0, fd_zero]
    rfl
  · have hT0 : T ≠ 0 := by
      rintro rfl
      rw [Int.zero_mul] at key
      rcases Int.mul_eq_zero.1 key.symm with h | h
      · exact h0 h
      · omega
    have hsgn : decide (T < 0) = decide (x + y < 0) := by
      apply decide_eq_decide.2
      constructor
      · intro h
        have : T * _ < 0 := Int.mul_neg_of_neg_of_pos h hp1
        rw [key] at this
        rcases (show x + y < 0 ∨ 0 ≤ x + y by omega) with h' | h'
        · exact h'
        · have := Int.mul_nonneg h' (Int.le_of_lt hp2); omega
      · intro h
        have : (x + y) * _ < 0 := Int.mul_neg_of_neg_of_pos h hp2
        rw [← key] at this
        rcases (show T < 0 ∨ 0 ≤ T by omega) with h' | h'
        · exact h'
        · have := Int.mul_nonneg h' (Int.le_of_lt hp1); omega
    rw [if_neg hT0, hsgn]
    unfold fd
    have hmag : (x + y).natAbs * 2 ^ (e - min (min p q) e).toNat = T.natAbs * 2 ^ (min p q - min (min p q) e).toNat := by
      have := congrArg Int.natAbs key
      rw [Int.natAbs_mul, Int.natAbs_mul, Int.natAbs_natCast, Int.natAbs_natCast] at this
      exact this.symm
    have hb := bl_pos (n := (x + y).natAbs) (by omega)
    have := hf.1
    have := hf.2
    exact (nearest_val _ (c := min (min p q) e) (by omega) (by omega) (by omega) (by omega) (by omega) hmag).symm

theorem add_fd {e x y : Int} (fx : Fits e x) (fy : Fits e y) (rx : Rep x) (ry : Rep y) (hf : Fits e (x + y)) : double.add (fd e x) (fd e y) = some (fd e (x + y)) := by
  obtain ⟨s, m, p, h1, h2, h3, h4⟩ := read_fd fx rx
  obtain ⟨t, n, q, g1, g2, g3, g4⟩ := read_fd fy ry
  unfold Format.add
  rw [h1, g1]
  refine sum_means h2 g2 hf ?_
  intro hz
  by_cases hx : x = 0
  · rw [h3 hx, Bool.false_and]
  · rw [h4 hx, g4 (by omega)]
    by_cases hx' : x < 0
    · rw [decide_eq_false (show ¬ y < 0 by omega), Bool.and_false]
    · rw [decide_eq_false hx', Bool.false_and]

theorem sub_fd {e x y : Int} (fx : Fits e x) (fy : Fits e y) (rx : Rep x) (ry : Rep y) (hf : Fits e (x - y)) : double.sub (fd e x) (fd e y) = some (fd e (x - y)) := by
  obtain ⟨s, m, p, h1, h2, h3, h4⟩ := read_fd fx rx
  obtain ⟨t, n, q, g1, g2, g3, g4⟩ := read_fd fy ry
  unfold Format.sub
  rw [h1, g1, Int.sub_eq_add_neg]
  refine sum_means h2 g2.opp (by rw [← Int.sub_eq_add_neg]; exact hf) ?_
  intro hz
  by_cases hx : x = 0
  · rw [h3 hx, Bool.false_and]
  · rw [h4 hx, g4 (by omega)]
    by_cases hx' : x < 0
    · rw [decide_eq_true (show y < 0 by omega), Bool.not_true, Bool.and_false]
    · rw [decide_eq_false hx', Bool.false_and]
end Go.Proofs.YtonhpkigoplmaaaGreatDoor
