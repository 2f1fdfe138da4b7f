/-
  ProdF, ProdM, QuoF, MarkM, QuoM, QuoP.
-/
import Derived.Test.YtonhpkigoplmaaaGreatDoorF06
namespace Go.Proofs.YtonhpkigoplmaaaGreatDoor
open Go.RowKit Go.Extern Ieee
attribute [local go_sem] run_store_float

/-- A float's word with the other sign. -/
def negW (b : Nat) : Nat := Op.negFloat .f64 b

theorem run_neg_float {P : Program} (w : World) (b : Nat) : (Op.unary .neg (.float .f64 b)).run P w = .ok (.float .f64 (negW b)) w := rfl

theorem c_fma {P : Program} (w : World) {x y z r : Nat} (h : double.fma x y z = some r) : (MathFMA.fma #[.float .f64 x, .float .f64 y, .float .f64 z]).run P w = .ok (.float .f64 r) w := by
  have h' : FloatKind.f64.format.fma x y z = some r := h
  delta MathFMA.fma MathFMA.fma.match_3
  simp only [Array.getLit, List.size_toArray, List.length_cons, List.length_nil, Nat.zero_add, Nat.reduceAdd, dite_true, List.getElem_toArray, List.getElem_cons_zero, List.getElem_cons_succ]
  delta MathFMA.fma._sparseCasesOn_3 MathFMA.fma._sparseCasesOn_4
  dsimp only
  rw [h']
  rfl

theorem lost_any (b : Bool) : Gives 143 #[.bool b] (wd b 103582791429521408) (wd b 103582791429521408) := by
  intro w
  cases b
  · go_enter Tryz.func143, Tryz.ntmps143
    go_wp2
    refine bodyPost_ret (v := .agg #[.float .f64 103582791429521408, .float .f64 103582791429521408]) (by simp [results, Tryz.results143, go_sem]) rfl ?_
    exact ⟨rfl, (Below.refl _ _).alloc (Nat.le_refl _) _⟩
  · go_enter Tryz.func143, Tryz.ntmps143
    go_wp2
    refine bodyPost_ret (v := .agg #[.float .f64 9326954828284297216, .float .f64 9326954828284297216]) (by simp [results, Tryz.results143, go_sem]) rfl ?_
    exact ⟨rfl, (Below.refl _ _).alloc (Nat.le_refl _) _⟩

theorem isLost_any (s : Bool) (R : Nat) (w : World) (hR : R ≤ 9218868437227405312) : Calls Tryz.prog 142 #[.float .f64 (wd s R)] w fun e w' => e = .returned (.bool (decide (R < 103582791429521408))) ∧ w' = w := by
  have hb : wd s R < 18446744073709551616 := wd_lt (by omega)
  have hm : wd s R % 9223372036854775808 = R := by unfold wd; split <;> omega
  have ho : FloatKind.f64.format.order R 103582791429521408 = some (compare (R : Int) 103582791429521408) := by
    have := order_wd (s := false) (t := false) (r := R) (q := 103582791429521408) hR (by omega)
    exact this
  have hA := abs_any (wd s R)
  rw [hm] at hA
  clear hm
  generalize wd s R = b at *
  by_cases h : R < 103582791429521408
  · rw [cmp_lt' (show (R : Int) < 103582791429521408 by omega)] at ho
    rw [decide_eq_true h]
    clear h hR
    go_enter Tryz.func142, Tryz.ntmps142
    go_wp2_with fail
    refine Calls.mono (hA _ hb) ?_
    rintro e w' ⟨rfl, rfl⟩
    go_wp2
    go_ret
    exact ⟨rfl, rfl⟩
  · have hne : (some (compare (R : Int) 103582791429521408) == some Ordering.lt) = false := by
      rcases (show (R : Int) = 103582791429521408 ∨ (103582791429521408 : Int) < R by omega) with h' | h'
      · rw [cmp_eq' h']; rfl
      · rw [cmp_gt' h']; rfl
    rw [← ho] at hne
    clear ho
    rw [decide_eq_false h]
    clear h hR
    go_enter Tryz.func142, Tryz.ntmps142
    go_wp2_with fail
    refine Calls.mono (hA _ hb) ?_
    rintro e w' ⟨rfl, rfl⟩
    go_wp2
    go_ret
    exact ⟨rfl, rfl⟩

/-- A factor is 0. -/
theorem productF_zero (x y : Nat) (ox oy : Ordering) (hx : FloatKind.f64.format.order x 0 = some ox) (hy : FloatKind.f64.format.order y 0 = some oy) (h : ox = .eq ∨ oy = .eq) : Gives 92 #[.float .f64 x, .float .f64 y] 0 0 := by
  intro w
  have cx : (FloatKind.f64.format.order x 0 == some Ordering.eq) = (ox == .eq) := by rw [hx]; cases ox <;> rfl
  have cy : (FloatKind.f64.format.order y 0 == some Ordering.eq) = (oy == .eq) := by rw [hy]; cases oy <;> rfl
  clear hx hy
  by_cases h1 : ox = .eq
  · have e1 : (ox == .eq) = true := by rw [h1]; rfl
    rw [e1] at cx
    clear e1 h cy
    go_enter Tryz.func92, Tryz.ntmps92
    go_wp2
    refine bodyPost_ret (v := .agg #[.float .f64 0, .float .f64 0]) (by simp [results, Tryz.results92, go_sem]) rfl ?_
    exact ⟨rfl, (Below.refl _ _).alloc (Nat.le_refl _) _⟩
  · have h2 : oy = .eq := by rcases h with h | h; exact absurd h h1; exact h
    have e1 : (ox == .eq) = false := by cases ox <;> first | rfl | exact absurd rfl h1
    have e2 : (oy == .eq) = true := by rw [h2]; rfl
    rw [e1] at cx
    rw [e2] at cy
    clear e1 e2 h h1 h2
    go_enter Tryz.func92, Tryz.ntmps92
    go_wp2
    refine bodyPost_ret (v := .agg #[.float .f64 0, .float .f64 0]) (by simp [results, Tryz.results92, go_sem]) rfl ?_
    exact ⟨rfl, (Below.refl _ _).alloc (Nat.le_refl _) _⟩

/-- A product that is lost. -/
theorem productF_lost (x y : Nat) (sx sy : Bool) (s : Bool) (R : Nat) (hx : FloatKind.f64.format.order x 0 = some (if sx then .lt else .gt)) (hy : FloatKind.f64.format.order y 0 = some (if sy then .lt else .gt)) (hm : double.mul x y = some (wd s R)) (hR : R < 103582791429521408) :
    Gives 92 #[.float .f64 x, .float .f64 y] (wd (sx ^^ sy) 103582791429521408) (wd (sx ^^ sy) 103582791429521408) := by
  intro w
  have g1 : ∀ w, (binOp .mul 65 (.float .f64 x) (.float .f64 y)).run Tryz.prog w = .ok (.float .f64 (wd s R)) w := fun w => run_float_arith w .mul _ .f64 x y _ hm
  have hL := isLost_any s R
  rw [decide_eq_true hR] at hL
  have HL : Hid (Gives 143 #[.bool (sx ^^ sy)] (wd (sx ^^ sy) 103582791429521408) (wd (sx ^^ sy) 103582791429521408)) := lost_any (sx ^^ sy)
  have hR : R ≤ 9218868437227405312 := by omega
  generalize wd (sx ^^ sy) 103582791429521408 = l at *
  clear hm
  generalize wd s R = b at *
  cases sx <;> cases sy
  · have hx' : FloatKind.f64.format.order x 0 = some .gt := hx
    have hy' : FloatKind.f64.format.order y 0 = some .gt := hy
    clear hx hy
    go_enter Tryz.func92, Tryz.ntmps92
    go_wp2_with fail
    refine Calls.mono (hL _ hR) ?_
    rintro e w' ⟨rfl, rfl⟩
    go_wp2_with fail
    refine Calls.mono (HL.out _) ?_
    rintro e w1 ⟨rfl, hb1⟩
    have B0 := blk_below (blk_new w _) hb1
    obtain ⟨k0, k1, k2, k3⟩ := blk2 B0
    have HB1 : Hid (Below w.heap.size w w1) := ((Below.refl _ _).alloc (Nat.le_refl _) _).trans (hb1.mono (by simp))
    clear hb1 B0 HL
    go_wp2
    refine bodyPost_ret (v := .agg #[.float .f64 l, .float .f64 l]) (by simp [results, Tryz.results92, go_sem, k0, k1]) rfl ?_
    exact ⟨rfl, (HB1.out.setCell (by simp) _).setCell (by simp) _⟩
  · have hx' : FloatKind.f64.format.order x 0 = some .gt := hx
    have hy' : FloatKind.f64.format.order y 0 = some .lt := hy
    clear hx hy
    go_enter Tryz.func92, Tryz.ntmps92
    go_wp2_with fail
    refine Calls.mono (hL _ hR) ?_
    rintro e w' ⟨rfl, rfl⟩
    go_wp2_with fail
    refine Calls.mono (HL.out _) ?_
    rintro e w1 ⟨rfl, hb1⟩
    have B0 := blk_below (blk_new w _) hb1
    obtain ⟨k0, k1, k2, k3⟩ := blk2 B0
    have HB1 : Hid (Below w.heap.size w w1) := ((Below.refl _ _).alloc (Nat.le_refl _) _).trans (hb1.mono (by simp))
    clear hb1 B0 HL
    go_wp2
    refine bodyPost_ret (v := .agg #[.float .f64 l, .float .f64 l]) (by simp [results, Tryz.results92, go_sem, k0, k1]) rfl ?_
    exact ⟨rfl, (HB1.out.setCell (by simp) _).setCell (by simp) _⟩
  · have hx' : FloatKind.f64.format.order x 0 = some .lt := hx
    have hy' : FloatKind.f64.format.order y 0 = some .gt := hy
    clear hx hy
    go_enter Tryz.func92, Tryz.ntmps92
    go_wp2_with fail
    refine Calls.mono (hL _ hR) ?_
    rintro e w' ⟨rfl, rfl⟩
    go_wp2_with fail
    refine Calls.mono (HL.out _) ?_
    rintro e w1 ⟨rfl, hb1⟩
    have B0 := blk_below (blk_new w _) hb1
    obtain ⟨k0, k1, k2, k3⟩ := blk2 B0
    have HB1 : Hid (Below w.heap.size w w1) := ((Below.refl _ _).alloc (Nat.le_refl _) _).trans (hb1.mono (by simp))
    clear hb1 B0 HL
    go_wp2
    refine bodyPost_ret (v := .agg #[.float .f64 l, .float .f64 l]) (by simp [results, Tryz.results92, go_sem, k0, k1]) rfl ?_
    exact ⟨rfl, (HB1.out.setCell (by simp) _).setCell (by simp) _⟩
  · have hx' : FloatKind.f64.format.order x 0 = some .lt := hx
    have hy' : FloatKind.f64.format.order y 0 = some .lt := hy
    clear hx hy
    go_enter Tryz.func92, Tryz.ntmps92
    go_wp2_with fail
    refine Calls.mono (hL _ hR) ?_
    rintro e w' ⟨rfl, rfl⟩
    go_wp2_with fail
    refine Calls.mono (HL.out _) ?_
    rintro e w1 ⟨rfl, hb1⟩
    have B0 := blk_below (blk_new w _) hb1
    obtain ⟨k0, k1, k2, k3⟩ := blk2 B0
    have HB1 : Hid (Below w.heap.size w w1) := ((Below.refl _ _).alloc (Nat.le_refl _) _).trans (hb1.mono (by simp))
    clear hb1 B0 HL
    go_wp2
    refine bodyPost_ret (v := .agg #[.float .f64 l, .float .f64 l]) (by simp [results, Tryz.results92, go_sem, k0, k1]) rfl ?_
    exact ⟨rfl, (HB1.out.setCell (by simp) _).setCell (by simp) _⟩

/-- A product that is not lost. -/
theorem productF_main (x y : Nat) (sx sy : Bool) (s : Bool) (R q d u : Nat) (hx : FloatKind.f64.format.order x 0 = some (if sx then .lt else .gt)) (hy : FloatKind.f64.format.order y 0 = some (if sy then .lt else .gt)) (hm : double.mul x y = some (wd s R)) (hR : ¬ R < 103582791429521408) (hR2 : R ≤ 9218868437227405312) (hq : double.fma x y (negW (wd s R)) = some q)
    (hA : Gives 141 #[.float .f64 (wd s R), .float .f64 q] d u) : Gives 92 #[.float .f64 x, .float .f64 y] d u := by
  intro w
  have g1 : ∀ w, (binOp .mul 65 (.float .f64 x) (.float .f64 y)).run Tryz.prog w = .ok (.float .f64 (wd s R)) w := fun w => run_float_arith w .mul _ .f64 x y _ hm
  have hF := @run_callFunc_extern Tryz.prog 144 _ MathFMA.fma Tryz.func144 (by kernel_rfl) (by kernel_rfl) (by kernel_rfl) (by kernel_rfl)
  have cF : ∀ w, (MathFMA.fma #[.float .f64 x, .float .f64 y, .float .f64 (negW (wd s R))]).run Tryz.prog w = .ok (.float .f64 q) w := fun w => c_fma w hq
  have cN : ∀ w, (Op.unary .neg (.float .f64 (wd s R))).run Tryz.prog w = .ok (.float .f64 (negW (wd s R))) w := fun w => run_neg_float w _
  have hL := isLost_any s R
  rw [decide_eq_false hR] at hL
  have HA : Hid (Gives 141 #[.float .f64 (wd s R), .float .f64 q] d u) := hA
  clear hm hq hA
  generalize negW (wd s R) = nb at *
  generalize wd s R = b at *
  cases sx <;> cases sy
  · have hx' : FloatKind.f64.format.order x 0 = some .gt := hx
    have hy' : FloatKind.f64.format.order y 0 = some .gt := hy
    clear hx hy
    go_enter Tryz.func92, Tryz.ntmps92
    go_wp2_with fail
    refine Calls.mono (hL _ hR2) ?_
    rintro e w' ⟨rfl, rfl⟩
    go_wp2_with fail
    refine Calls.mono (HA.out _) ?_
    rintro e w1 ⟨rfl, hb1⟩
    have B0 := blk_below (blk_new w _) hb1
    obtain ⟨k0, k1, k2, k3⟩ := blk2 B0
    have HB1 : Hid (Below w.heap.size w w1) := ((Below.refl _ _).alloc (Nat.le_refl _) _).trans (hb1.mono (by simp))
    clear hb1 B0 HA
    go_wp2
    refine bodyPost_ret (v := .agg #[.float .f64 d, .float .f64 u]) (by simp [results, Tryz.results92, go_sem, k0, k1]) rfl ?_
    exact ⟨rfl, (HB1.out.setCell (by simp) _).setCell (by simp) _⟩
  · have hx' : FloatKind.f64.format.order x 0 = some .gt := hx
    have hy' : FloatKind.f64.format.order y 0 = some .lt := hy
    clear hx hy
    go_enter Tryz.func92, Tryz.ntmps92
    go_wp2_with fail
    refine Calls.mono (hL _ hR2) ?_
    rintro e w' ⟨rfl, rfl⟩
    go_wp2_with fail
    refine Calls.mono (HA.out _) ?_
    rintro e w1 ⟨rfl, hb1⟩
    have B0 := blk_below (blk_new w _) hb1
    obtain ⟨k0, k1, k2, k3⟩ := blk2 B0
    have HB1 : Hid (Below w.heap.size w w1) := ((Below.refl _ _).alloc (Nat.le_refl _) _).trans (hb1.mono (by simp))
    clear hb1 B0 HA
    go_wp2
    refine bodyPost_ret (v := .agg #[.float .f64 d, .float .f64 u]) (by simp [results, Tryz.results92, go_sem, k0, k1]) rfl ?_
    exact ⟨rfl, (HB1.out.setCell (by simp) _).setCell (by simp) _⟩
  · have hx' : FloatKind.f64.format.order x 0 = some .lt := hx
    have hy' : FloatKind.f64.format.order y 0 = some .gt := hy
    clear hx hy
    go_enter Tryz.func92, Tryz.ntmps92
    go_wp2_with fail
    refine Calls.mono (hL _ hR2) ?_
    rintro e w' ⟨rfl, rfl⟩
    go_wp2_with fail
    refine Calls.mono (HA.out _) ?_
    rintro e w1 ⟨rfl, hb1⟩
    have B0 := blk_below (blk_new w _) hb1
    obtain ⟨k0, k1, k2, k3⟩ := blk2 B0
    have HB1 : Hid (Below w.heap.size w w1) := ((Below.refl _ _).alloc (Nat.le_refl _) _).trans (hb1.mono (by simp))
    clear hb1 B0 HA
    go_wp2
    refine bodyPost_ret (v := .agg #[.float .f64 d, .float .f64 u]) (by simp [results, Tryz.results92, go_sem, k0, k1]) rfl ?_
    exact ⟨rfl, (HB1.out.setCell (by simp) _).setCell (by simp) _⟩
  · have hx' : FloatKind.f64.format.order x 0 = some .lt := hx
    have hy' : FloatKind.f64.format.order y 0 = some .lt := hy
    clear hx hy
    go_enter Tryz.func92, Tryz.ntmps92
    go_wp2_with fail
    refine Calls.mono (hL _ hR2) ?_
    rintro e w' ⟨rfl, rfl⟩
    go_wp2_with fail
    refine Calls.mono (HA.out _) ?_
    rintro e w1 ⟨rfl, hb1⟩
    have B0 := blk_below (blk_new w _) hb1
    obtain ⟨k0, k1, k2, k3⟩ := blk2 B0
    have HB1 : Hid (Below w.heap.size w w1) := ((Below.refl _ _).alloc (Nat.le_refl _) _).trans (hb1.mono (by simp))
    clear hb1 B0 HA
    go_wp2
    refine bodyPost_ret (v := .agg #[.float .f64 d, .float .f64 u]) (by simp [results, Tryz.results92, go_sem, k0, k1]) rfl ?_
    exact ⟨rfl, (HB1.out.setCell (by simp) _).setCell (by simp) _⟩
end Go.Proofs.YtonhpkigoplmaaaGreatDoor
namespace Go.Proofs.YtonhpkigoplmaaaGreatDoor
open Go.RowKit Go.Extern Ieee

theorem xor_top {R : Nat} (h : R < 9223372036854775808) : R ^^^ 9223372036854775808 = R + 9223372036854775808 := by
  have e : (9223372036854775808 : Nat) = 2 ^ 63 := by decide
  rw [e] at h ⊢
  rw [Nat.add_comm]
  apply Nat.eq_of_testBit_eq
  intro i
  rw [Nat.testBit_xor, Nat.testBit_two_pow]
  rcases (show i < 63 ∨ i = 63 ∨ 63 < i by omega) with hi | hi | hi
  · rw [Nat.testBit_two_pow_add_gt hi, decide_eq_false (by omega), Bool.xor_false]
  · subst hi
    rw [Nat.testBit_two_pow_add_eq, decide_eq_true rfl, Bool.xor_true]
  · have h2 : 2 ^ 63 + R < 2 ^ i := by
      have : (2 : Nat) ^ 64 ≤ 2 ^ i := pow_mono (by omega)
      rw [show (64 : Nat) = 63 + 1 from rfl, Nat.pow_succ] at this
      omega
    rw [Nat.testBit_lt_two_pow h2, Nat.testBit_lt_two_pow (show R < 2 ^ i by omega), decide_eq_false (by omega)]; rfl

theorem negW_wd {s : Bool} {R : Nat} (h : R < 9223372036854775808) : negW (wd s R) = wd (!s) R := by
  have e : negW (wd s R) = wd s R ^^^ 9223372036854775808 := rfl
  rw [e]
  unfold wd
  cases s
  · rw [if_neg Bool.false_ne_true, Nat.add_zero, xor_top h]; rfl
  · rw [if_pos rfl, ← xor_top h, Nat.xor_assoc, Nat.xor_self, Nat.xor_zero]; rfl

theorem read_opp {s : Bool} {R : Nat} (h : R < 9223372036854775808) : double.read (wd (!s) R) = (double.read (wd s R)).opposite := by
  have hsw : double.signWeight = 9223372036854775808 := rfl
  have hbn : double.binade = 4503599627370496 := rfl
  have hir : double.infRung = 9218868437227405312 := rfl
  have hlp : double.leastPlace = -1074 := rfl
  have hm : ∀ s, wd s R % 9223372036854775808 = R := by intro s; unfold wd; split <;> omega
  have hd : ∀ s, (wd s R / 9223372036854775808 % 2 == 1) = s := by
    intro s
    unfold wd
    cases s
    · rw [if_neg Bool.false_ne_true, show (R + 0) / 9223372036854775808 % 2 = 0 by omega]; rfl
    · rw [if_pos rfl, show (R + 9223372036854775808) / 9223372036854775808 % 2 = 1 by omega]; rfl
  unfold Format.read
  simp only [hsw, hbn, hir, hlp, hm, hd]
  by_cases h1 : R < 4503599627370496
  · rw [if_pos h1, if_pos h1]; rfl
  · rw [if_neg h1, if_neg h1]
    by_cases h2 : R < 9218868437227405312
    · rw [if_pos h2, if_pos h2]; rfl
    · rw [if_neg h2, if_neg h2]
      by_cases h3 : R = 9218868437227405312
      · rw [if_pos h3, if_pos h3]; rfl
      · rw [if_neg h3, if_neg h3]; rfl

theorem read_negW {b : Nat} (hb : b < 18446744073709551616) : double.read (negW b) = (double.read b).opposite := by
  have := wd_self hb
  rw [← this, negW_wd (by omega), read_opp (by omega)]

/-- A plain float that is not 0: its sign and its data. -/
theorem plain_parts {b : Nat} {x : Bool × Nat × Int} (hb : b < 18446744073709551616) (h : plainN b = some x) (h0 : x.2.1 ≠ 0) :
    double.read b = .number x.1 x.2.1 x.2.2 ∧ FloatKind.f64.format.order b 0 = some (if x.1 then .lt else .gt) ∧ 4503599627370496 ≤ x.2.1 ∧ x.2.1 < 9007199254740992 ∧ -952 ≤ x.2.2 ∧ x.2.2 ≤ 848 := by
  obtain ⟨s, n, e⟩ := x
  simp only at h0 ⊢
  have hn := plain_num h
  have hr : double.read b = .number s n e := by
    rcases plain_read hb h with ⟨h1, _⟩ | ⟨_, h2⟩
    · exact absurd h1 h0
    · exact h2
  refine ⟨hr, ?_, ?_⟩
  · show double.order b 0 = _
    unfold Format.order
    have hz : double.read 0 = .number false 0 (-1074) := rfl
    rw [hr, hz]
    simp only [Datum.order, signed_eq, Nat.zero_mul, sg_zero]
    have hpos : 0 < n * 2 ^ (e - min e (-1074)).toNat := Nat.mul_pos (Nat.pos_of_ne_zero h0) (Nat.two_pow_pos _)
    generalize n * 2 ^ (e - min e (-1074)).toNat = m at *
    cases s
    · rw [cmp_gt' (by simp [sg]; omega)]; rfl
    · rw [cmp_lt' (by simp [sg]; omega)]; rfl
  · rcases hn with h | h
    · cases h; exact absurd rfl h0
    · exact h

theorem plain_zero_order {b : Nat} {x : Bool × Nat × Int} (hb : b < 18446744073709551616) (h : plainN b = some x) (h0 : x.2.1 = 0) : FloatKind.f64.format.order b 0 = some .eq := by
  obtain ⟨s, n, e⟩ := x
  simp only at h0
  subst h0
  show double.order b 0 = _
  unfold Format.order
  have hz : double.read 0 = .number false 0 (-1074) := rfl
  rcases plain_read hb h with ⟨_, _, _, s', h2⟩ | ⟨h1, _⟩
  · rw [h2, hz]
    simp only [Datum.order, signed_eq, Nat.zero_mul, sg_zero]; rfl
  · omega

/-- What encloseref.product gives. -/
def prodN (x y : Bool × Nat × Int) : Bool × Nat × Int := ((x.1 != y.1) && decide (x.2.1 * y.2.1 ≠ 0), x.2.1 * y.2.1, x.2.2 + y.2.2)

theorem ends_zero {x : Bool × Nat × Int} (h : x.2.1 = 0) : Ends x 0 0 := by
  unfold Ends posV
  rw [if_pos h, if_pos h]
  exact ⟨FR_zero, FR_zero⟩

theorem ends_tiny (s : Bool) {n : Nat} {e : Int} {d u : Nat} (h0 : n ≠ 0) (h : e + bl n ≤ -901) (hd : FR d (sgI s 553942754166571007)) (hu : FR u (sgI s 553942754166571007)) : Ends (s, n, e) d u := by
  unfold Ends
  rw [posV_tiny s _ h0 h, posV_tiny s _ h0 h]
  exact ⟨hd, hu⟩

theorem ends_huge (s : Bool) {n : Nat} {e : Int} {d u : Nat} (h0 : n ≠ 0) (h : 902 ≤ e + bl n) (hd : FR d (sgI s 8660422083433463809)) (hu : FR u (sgI s 8660422083433463809)) : Ends (s, n, e) d u := by
  unfold Ends
  rw [posV_huge s _ h0 h, posV_huge s _ h0 h]
  exact ⟨hd, hu⟩

theorem sg_sign {s : Bool} {n : Nat} (h : n ≠ 0) : decide (sg s n < 0) = s ∧ (sg s n).natAbs = n ∧ sg s n ≠ 0 := by
  unfold sg
  cases s
  · rw [if_neg Bool.false_ne_true]; exact ⟨decide_eq_false (by omega), by omega, by omega⟩
  · rw [if_pos rfl]; exact ⟨decide_eq_true (by omega), by omega, by omega⟩

theorem bl_prod {m n : Nat} (h1 : 4503599627370496 ≤ m) (h2 : m < 9007199254740992) (h3 : 4503599627370496 ≤ n) (h4 : n < 9007199254740992) : 105 ≤ bl (m * n) ∧ bl (m * n) ≤ 106 := by
  constructor
  · have : (2 : Nat) ^ 104 ≤ m * n := by
      have := Nat.mul_le_mul h1 h3
      have e : (2 : Nat) ^ 104 = 4503599627370496 * 4503599627370496 := by decide
      omega
    exact bl_gt this
  · apply bl_le
    have := Nat.mul_lt_mul'' h2 h4
    have e : (2 : Nat) ^ 106 = 9007199254740992 * 9007199254740992 := by decide
    omega

/-- The nearest float within range is that of a whole number of 2 ^ e. -/
theorem nearest_fd {s : Bool} {n : Nat} (e : Int) (h0 : n ≠ 0) : double.nearest s n e = fd e (sg s n) := by
  obtain ⟨a1, a2, a3⟩ := sg_sign (s := s) h0
  unfold fd
  rw [a1, a2]

theorem sum_write (s t : Bool) (m n : Nat) (i j : Int) : ∃ q o, (Datum.sum (.number s m i) (.number t n j)).map double.write = some q ∧ FloatKind.f64.format.order q 0 = some o := by
  obtain ⟨o, ho⟩ := order_write (if signed s m (i - min i j).toNat + signed t n (j - min i j).toNat = 0 then s && t else decide (signed s m (i - min i j).toNat + signed t n (j - min i j).toNat < 0)) (signed s m (i - min i j).toNat + signed t n (j - min i j).toNat).natAbs (min i j)
  exact ⟨_, o, rfl, ho⟩

theorem order_inf (s : Bool) : FloatKind.f64.format.order (wd (!s) 9218868437227405312) 0 = some (if s then .gt else .lt) := by
  cases s <;> rfl

/-- The exact sum with the float nearest to a number, its sign turned: the remainder. -/
theorem rest_fd {e z : Int} {s : Bool} {n : Nat} {p : Int} (hM : Means e z s n p) (h0 : z ≠ 0) (hs : s = decide (z < 0)) (he1 : -1022 ≤ e) (he2 : e + bl z.natAbs ≤ 1019) :
    (Datum.sum (.number s n p) (double.read (negW (fd e z)))).map double.write = some (fd e (z - nearI z)) := by
  have hbp := bl_pos (n := z.natAbs) (by omega)
  have hN0 : nearI z ≠ 0 := by
    have h1 := nearI_abs z
    have h2 := (nearM_facts (n := z.natAbs) (by omega)).1
    omega
  have hbN : bl (nearI z).natAbs ≤ bl z.natAbs + 1 := by
    rw [nearI_abs]
    exact (nearM_facts (n := z.natAbs) (by omega)).2.2.2
  have hsg : decide (nearI z < 0) = decide (z < 0) := by
    apply decide_eq_decide.2
    by_cases h : z < 0
    · have := (nearI_sgn z).1 h; omega
    · have := (nearI_sgn z).2 h; omega
  have hlt : fd e z < 18446744073709551616 := by
    obtain ⟨R, hR, hR2, _⟩ := nearest_any (decide (z < 0)) (n := z.natAbs) e (by omega)
    unfold fd
    rw [hR]; exact wd_lt (by omega)
  rw [read_negW hlt, ← nearI_fd h0 he1 (by omega)]
  obtain ⟨t, m, q, h1, h2, h3, h4⟩ := read_fd (e := e) (z := nearI z) ⟨he1, by omega⟩ (nearI_rep z)
  rw [h1]
  have hd : (z - nearI z).natAbs < 2 * 2 ^ bl z.natAbs := by
    have := near_best z 0 rep_zero
    have hb := (bl_bounds (n := z.natAbs) (by omega)).2.1
    omega
  have hF : Fits e (z + -nearI z) := by
    rw [← Int.sub_eq_add_neg]
    have : bl (z - nearI z).natAbs ≤ bl z.natAbs + 1 := bl_le (by rw [Nat.pow_succ]; omega)
    exact ⟨he1, by omega⟩
  have := sum_means hM h2.opp hF (by
    intro _
    rw [h4 hN0, hsg, hs]
    cases decide (z < 0) <;> rfl)
  rw [Int.sub_eq_add_neg]
  exact this

theorem prod_plain {x y : Nat} {p q : Bool × Nat × Int} (hx : x < 18446744073709551616) (hy : y < 18446744073709551616) (px : plainN x = some p) (py : plainN y = some q) :
    ∃ d u, Ends (prodN p q) d u ∧ Gives 92 #[.float .f64 x, .float .f64 y] d u := by
  by_cases hp0 : p.2.1 = 0
  · have ho := plain_zero_order hx px hp0
    refine ⟨0, 0, ends_zero (by unfold prodN; rw [hp0]; simp), ?_⟩
    by_cases hq0 : q.2.1 = 0
    · exact productF_zero x y _ _ ho (plain_zero_order hy py hq0) (Or.inl rfl)
    · exact productF_zero x y _ _ ho (plain_parts hy py hq0).2.1 (Or.inl rfl)
  · by_cases hq0 : q.2.1 = 0
    · refine ⟨0, 0, ends_zero (by unfold prodN; rw [hq0]; simp), ?_⟩
      exact productF_zero x y _ _ (plain_parts hx px hp0).2.1 (plain_zero_order hy py hq0) (Or.inr rfl)
    · obtain ⟨sx, mx, ex⟩ := p
      obtain ⟨sy, my, ey⟩ := q
      obtain ⟨rx, ox, x1, x2, x3, x4⟩ := plain_parts hx px hp0
      obtain ⟨ry, oy, y1, y2, y3, y4⟩ := plain_parts hy py hq0
      simp only at *
      have hn : mx * my ≠ 0 := Nat.mul_ne_zero hp0 hq0
      have hb := bl_prod x1 x2 y1 y2
      have hpn : prodN (sx, mx, ex) (sy, my, ey) = (sx ^^ sy, mx * my, ex + ey) := by
        unfold prodN
        simp only
        rw [decide_eq_true hn, Bool.and_true]
      rw [hpn]
      have hmul : double.mul x y = some (double.nearest (sx ^^ sy) (mx * my) (ex + ey)) := by
        unfold Format.mul
        rw [rx, ry]; rfl
      have hfma : ∀ z, double.fma x y z = ((Datum.number (sx ^^ sy) (mx * my) (ex + ey)).sum (double.read z)).map double.write := by
        intro z
        unfold Format.fma
        rw [rx, ry]; rfl
      have hlost := productF_lost x y sx sy
      have hmain := productF_main x y sx sy
      generalize (sx ^^ sy) = s at *
      obtain ⟨R, hR, hR2, hmid, htin, hhug⟩ := nearest_any s (ex + ey) hn
      have rb := rung_bounds (ex + ey) hn
      rw [hR] at hmul
      have hup : -1021 ≤ ex + ey + bl (mx * my) → ex + ey + bl (mx * my) ≤ 1023 → rung (mx * my) (ex + ey) ≤ R ∧ (R : Int) ≤ rung (mx * my) (ex + ey) + 1 := by
        intro h1 h2
        have := hmid h1 h2
        split at this <;> omega
      have hneg : double.read (negW (wd s R)) = (double.read (wd s R)).opposite := read_negW (wd_lt (by omega))
      by_cases hl : R < 103582791429521408
      · exact ⟨_, _, ends_tiny s hn (by omega) (FR_tiny s (by omega) (by omega)) (FR_tiny s (by omega) (by omega)), hlost s R ox oy hmul hl⟩
      · have hq := hfma (negW (wd s R))
        by_cases he1 : ex + ey < -1022
        · obtain ⟨m', i', r1, _, _⟩ := read_vr (s := s) (r := R) (by omega)
          obtain ⟨q, o, q1, q2⟩ := sum_write s (!s) (mx * my) m' (ex + ey) i'
          rw [hneg, r1] at hq
          obtain ⟨d, u, hd, hu, hG⟩ := around_tiny s R q o (by omega) (by omega) q2
          exact ⟨d, u, ends_tiny s hn (by omega) hd hu, hmain s R q d u ox oy hmul hl hR2 (hq.trans q1) hG⟩
        · by_cases he2 : 904 < ex + ey
          · by_cases hinf : R = 9218868437227405312
            · subst hinf
              have r1 := read_wd_inf s
              rw [hneg, r1] at hq
              obtain ⟨d, u, hd, hu, hG⟩ := around_huge s 9218868437227405312 (wd (!s) 9218868437227405312) _ (by omega) (by omega) (order_inf s) (fun _ => rfl)
              refine ⟨d, u, ends_huge s hn (by omega) hd hu, hmain s _ _ d u ox oy hmul hl hR2 (hq.trans ?_) hG⟩
              cases s <;> rfl
            · obtain ⟨m', i', r1, _, _⟩ := read_vr (s := s) (r := R) (by omega)
              obtain ⟨q, o, q1, q2⟩ := sum_write s (!s) (mx * my) m' (ex + ey) i'
              rw [hneg, r1] at hq
              obtain ⟨d, u, hd, hu, hG⟩ := around_huge s R q o (by omega) (by omega) q2 (fun h => absurd h hinf)
              exact ⟨d, u, ends_huge s hn (by omega) hd hu, hmain s R q d u ox oy hmul hl hR2 (hq.trans q1) hG⟩
          · obtain ⟨a1, a2, a3⟩ := sg_sign (s := s) hn
            have hfd := nearest_fd (s := s) (ex + ey) hn
            have hrest := rest_fd (e := ex + ey) (z := sg s (mx * my)) (s := s) (n := mx * my) (p := ex + ey) (fun c _ _ => (sg_mul _ _ _).symm) a3 a1.symm (by omega) (by rw [a2]; omega)
            rw [← hfd, hR] at hrest
            rw [hrest] at hq
            have hlt : mx * my < 2 ^ 106 := Nat.lt_of_lt_of_le (bl_bounds (Nat.pos_of_ne_zero hn)).2.1 (pow_mono hb.2)
            have hnb := near_best (sg s (mx * my)) 0 rep_zero
            obtain ⟨d, u, hE, hG⟩ := around_ends (e := ex + ey) (z := sg s (mx * my)) (M := 106) (by omega) (by omega) (by omega) (by omega)
            rw [← hfd, hR] at hG
            refine ⟨d, u, ?_, hmain s R _ d u ox oy hmul hl hR2 hq hG⟩
            unfold EndsAt at hE
            rw [a1, a2] at hE
            exact hE
end Go.Proofs.YtonhpkigoplmaaaGreatDoor
namespace Go.Proofs.YtonhpkigoplmaaaGreatDoor
open Go.RowKit Go.Extern Ieee
attribute [local go_sem] run_store_float

theorem quotientF_zero (x y : Nat) (hx : FloatKind.f64.format.order x 0 = some .eq) : Gives 94 #[.float .f64 x, .float .f64 y] 0 0 := by
  intro w
  go_enter Tryz.func94, Tryz.ntmps94
  go_wp2
  refine bodyPost_ret (v := .agg #[.float .f64 0, .float .f64 0]) (by simp [results, Tryz.results94, go_sem]) rfl ?_
  exact ⟨rfl, (Below.refl _ _).alloc (Nat.le_refl _) _⟩

theorem quotientF_lost (x y : Nat) (sx sy : Bool) (s : Bool) (R : Nat) (hx : FloatKind.f64.format.order x 0 = some (if sx then .lt else .gt)) (hy : FloatKind.f64.format.order y 0 = some (if sy then .lt else .gt)) (hm : double.div x y = some (wd s R)) (hR : R < 103582791429521408) :
    Gives 94 #[.float .f64 x, .float .f64 y] (wd (sx ^^ sy) 103582791429521408) (wd (sx ^^ sy) 103582791429521408) := by
  intro w
  have g1 : ∀ w, (binOp .quo 65 (.float .f64 x) (.float .f64 y)).run Tryz.prog w = .ok (.float .f64 (wd s R)) w := fun w => run_float_arith w .quo _ .f64 x y _ hm
  have hL := isLost_any s R
  rw [decide_eq_true hR] at hL
  have HL : Hid (Gives 143 #[.bool (sx ^^ sy)] (wd (sx ^^ sy) 103582791429521408) (wd (sx ^^ sy) 103582791429521408)) := lost_any (sx ^^ sy)
  have hR : R ≤ 9218868437227405312 := by omega
  generalize wd (sx ^^ sy) 103582791429521408 = l at *
  clear hm
  generalize wd s R = b at *
  cases sx <;> cases sy
  · have hx' : FloatKind.f64.format.order x 0 = some .gt := hx
    have hy' : FloatKind.f64.format.order y 0 = some .gt := hy
    clear hx hy
    go_enter Tryz.func94, Tryz.ntmps94
    go_wp2_with fail
    refine Calls.mono (hL _ hR) ?_
    rintro e w' ⟨rfl, rfl⟩
    go_wp2_with fail
    refine Calls.mono (HL.out _) ?_
    rintro e w1 ⟨rfl, hb1⟩
    have B0 := blk_below (blk_new w _) hb1
    obtain ⟨k0, k1, k2, k3⟩ := blk2 B0
    have HB1 : Hid (Below w.heap.size w w1) := ((Below.refl _ _).alloc (Nat.le_refl _) _).trans (hb1.mono (by simp))
    clear hb1 B0 HL
    go_wp2
    refine bodyPost_ret (v := .agg #[.float .f64 l, .float .f64 l]) (by simp [results, Tryz.results94, go_sem, k0, k1]) rfl ?_
    exact ⟨rfl, (HB1.out.setCell (by simp) _).setCell (by simp) _⟩
  · have hx' : FloatKind.f64.format.order x 0 = some .gt := hx
    have hy' : FloatKind.f64.format.order y 0 = some .lt := hy
    clear hx hy
    go_enter Tryz.func94, Tryz.ntmps94
    go_wp2_with fail
    refine Calls.mono (hL _ hR) ?_
    rintro e w' ⟨rfl, rfl⟩
    go_wp2_with fail
    refine Calls.mono (HL.out _) ?_
    rintro e w1 ⟨rfl, hb1⟩
    have B0 := blk_below (blk_new w _) hb1
    obtain ⟨k0, k1, k2, k3⟩ := blk2 B0
    have HB1 : Hid (Below w.heap.size w w1) := ((Below.refl _ _).alloc (Nat.le_refl _) _).trans (hb1.mono (by simp))
    clear hb1 B0 HL
    go_wp2
    refine bodyPost_ret (v := .agg #[.float .f64 l, .float .f64 l]) (by simp [results, Tryz.results94, go_sem, k0, k1]) rfl ?_
    exact ⟨rfl, (HB1.out.setCell (by simp) _).setCell (by simp) _⟩
  · have hx' : FloatKind.f64.format.order x 0 = some .lt := hx
    have hy' : FloatKind.f64.format.order y 0 = some .gt := hy
    clear hx hy
    go_enter Tryz.func94, Tryz.ntmps94
    go_wp2_with fail
    refine Calls.mono (hL _ hR) ?_
    rintro e w' ⟨rfl, rfl⟩
    go_wp2_with fail
    refine Calls.mono (HL.out _) ?_
    rintro e w1 ⟨rfl, hb1⟩
    have B0 := blk_below (blk_new w _) hb1
    obtain ⟨k0, k1, k2, k3⟩ := blk2 B0
    have HB1 : Hid (Below w.heap.size w w1) := ((Below.refl _ _).alloc (Nat.le_refl _) _).trans (hb1.mono (by simp))
    clear hb1 B0 HL
    go_wp2
    refine bodyPost_ret (v := .agg #[.float .f64 l, .float .f64 l]) (by simp [results, Tryz.results94, go_sem, k0, k1]) rfl ?_
    exact ⟨rfl, (HB1.out.setCell (by simp) _).setCell (by simp) _⟩
  · have hx' : FloatKind.f64.format.order x 0 = some .lt := hx
    have hy' : FloatKind.f64.format.order y 0 = some .lt := hy
    clear hx hy
    go_enter Tryz.func94, Tryz.ntmps94
    go_wp2_with fail
    refine Calls.mono (hL _ hR) ?_
    rintro e w' ⟨rfl, rfl⟩
    go_wp2_with fail
    refine Calls.mono (HL.out _) ?_
    rintro e w1 ⟨rfl, hb1⟩
    have B0 := blk_below (blk_new w _) hb1
    obtain ⟨k0, k1, k2, k3⟩ := blk2 B0
    have HB1 : Hid (Below w.heap.size w w1) := ((Below.refl _ _).alloc (Nat.le_refl _) _).trans (hb1.mono (by simp))
    clear hb1 B0 HL
    go_wp2
    refine bodyPost_ret (v := .agg #[.float .f64 l, .float .f64 l]) (by simp [results, Tryz.results94, go_sem, k0, k1]) rfl ?_
    exact ⟨rfl, (HB1.out.setCell (by simp) _).setCell (by simp) _⟩

theorem quotientF_main (x y : Nat) (sx sy : Bool) (s : Bool) (R q d u : Nat) (hx : FloatKind.f64.format.order x 0 = some (if sx then .lt else .gt)) (hy : FloatKind.f64.format.order y 0 = some (if sy then .lt else .gt)) (hm : double.div x y = some (wd s R)) (hR : ¬ R < 103582791429521408) (hR2 : R ≤ 9218868437227405312) (hq : double.fma (negW (wd s R)) y x = some q)
    (hA : Gives 141 #[.float .f64 (wd s R), .float .f64 (if sy then negW q else q)] d u) : Gives 94 #[.float .f64 x, .float .f64 y] d u := by
  intro w
  have g1 : ∀ w, (binOp .quo 65 (.float .f64 x) (.float .f64 y)).run Tryz.prog w = .ok (.float .f64 (wd s R)) w := fun w => run_float_arith w .quo _ .f64 x y _ hm
  have hF := @run_callFunc_extern Tryz.prog 144 _ MathFMA.fma Tryz.func144 (by kernel_rfl) (by kernel_rfl) (by kernel_rfl) (by kernel_rfl)
  have cF : ∀ w, (MathFMA.fma #[.float .f64 (negW (wd s R)), .float .f64 y, .float .f64 x]).run Tryz.prog w = .ok (.float .f64 q) w := fun w => c_fma w hq
  have cN : ∀ w, (Op.unary .neg (.float .f64 (wd s R))).run Tryz.prog w = .ok (.float .f64 (negW (wd s R))) w := fun w => run_neg_float w _
  have cQ : ∀ w, (Op.unary .neg (.float .f64 q)).run Tryz.prog w = .ok (.float .f64 (negW q)) w := fun w => run_neg_float w _
  have hL := isLost_any s R
  rw [decide_eq_false hR] at hL
  have HA : Hid (Gives 141 #[.float .f64 (wd s R), .float .f64 (if sy then negW q else q)] d u) := hA
  clear hm hq hA
  generalize negW (wd s R) = nb at *
  generalize negW q = nq at *
  generalize wd s R = b at *
  cases sx <;> cases sy
  · have hx' : FloatKind.f64.format.order x 0 = some .gt := hx
    have hy' : FloatKind.f64.format.order y 0 = some .gt := hy
    clear hx hy
    go_enter Tryz.func94, Tryz.ntmps94
    go_wp2_with fail
    refine Calls.mono (hL _ hR2) ?_
    rintro e w' ⟨rfl, rfl⟩
    go_wp2_with fail
    refine Calls.mono (HA.out _) ?_
    rintro e w1 ⟨rfl, hb1⟩
    have B0 := blk_below (blk_new w _) hb1
    obtain ⟨k0, k1, k2, k3⟩ := blk2 B0
    have HB1 : Hid (Below w.heap.size w w1) := ((Below.refl _ _).alloc (Nat.le_refl _) _).trans (hb1.mono (by simp))
    clear hb1 B0 HA
    go_wp2
    refine bodyPost_ret (v := .agg #[.float .f64 d, .float .f64 u]) (by simp [results, Tryz.results94, go_sem, k0, k1]) rfl ?_
    exact ⟨rfl, (HB1.out.setCell (by simp) _).setCell (by simp) _⟩
  · have hx' : FloatKind.f64.format.order x 0 = some .gt := hx
    have hy' : FloatKind.f64.format.order y 0 = some .lt := hy
    clear hx hy
    go_enter Tryz.func94, Tryz.ntmps94
    go_wp2_with fail
    refine Calls.mono (hL _ hR2) ?_
    rintro e w' ⟨rfl, rfl⟩
    go_wp2_with fail
    refine Calls.mono (HA.out _) ?_
    rintro e w1 ⟨rfl, hb1⟩
    have B0 := blk_below (blk_new w _) hb1
    obtain ⟨k0, k1, k2, k3⟩ := blk2 B0
    have HB1 : Hid (Below w.heap.size w w1) := ((Below.refl _ _).alloc (Nat.le_refl _) _).trans (hb1.mono (by simp))
    clear hb1 B0 HA
    go_wp2
    refine bodyPost_ret (v := .agg #[.float .f64 d, .float .f64 u]) (by simp [results, Tryz.results94, go_sem, k0, k1]) rfl ?_
    exact ⟨rfl, (HB1.out.setCell (by simp) _).setCell (by simp) _⟩
  · have hx' : FloatKind.f64.format.order x 0 = some .lt := hx
    have hy' : FloatKind.f64.format.order y 0 = some .gt := hy
    clear hx hy
    go_enter Tryz.func94, Tryz.ntmps94
    go_wp2_with fail
    refine Calls.mono (hL _ hR2) ?_
    rintro e w' ⟨rfl, rfl⟩
    go_wp2_with fail
    refine Calls.mono (HA.out _) ?_
    rintro e w1 ⟨rfl, hb1⟩
    have B0 := blk_below (blk_new w _) hb1
    obtain ⟨k0, k1, k2, k3⟩ := blk2 B0
    have HB1 : Hid (Below w.heap.size w w1) := ((Below.refl _ _).alloc (Nat.le_refl _) _).trans (hb1.mono (by simp))
    clear hb1 B0 HA
    go_wp2
    refine bodyPost_ret (v := .agg #[.float .f64 d, .float .f64 u]) (by simp [results, Tryz.results94, go_sem, k0, k1]) rfl ?_
    exact ⟨rfl, (HB1.out.setCell (by simp) _).setCell (by simp) _⟩
  · have hx' : FloatKind.f64.format.order x 0 = some .lt := hx
    have hy' : FloatKind.f64.format.order y 0 = some .lt := hy
    clear hx hy
    go_enter Tryz.func94, Tryz.ntmps94
    go_wp2_with fail
    refine Calls.mono (hL _ hR2) ?_
    rintro e w' ⟨rfl, rfl⟩
    go_wp2_with fail
    refine Calls.mono (HA.out _) ?_
    rintro e w1 ⟨rfl, hb1⟩
    have B0 := blk_below (blk_new w _) hb1
    obtain ⟨k0, k1, k2, k3⟩ := blk2 B0
    have HB1 : Hid (Below w.heap.size w w1) := ((Below.refl _ _).alloc (Nat.le_refl _) _).trans (hb1.mono (by simp))
    clear hb1 B0 HA
    go_wp2
    refine bodyPost_ret (v := .agg #[.float .f64 d, .float .f64 u]) (by simp [results, Tryz.results94, go_sem, k0, k1]) rfl ?_
    exact ⟨rfl, (HB1.out.setCell (by simp) _).setCell (by simp) _⟩

theorem c_sqrt {P : Program} (w : World) {x r : Nat} (h : double.sqrt x = some r) : (MathSqrt.sqrt #[.float .f64 x]).run P w = .ok (.float .f64 r) w := by
  have h' : FloatKind.f64.format.sqrt x = some r := h
  delta MathSqrt.sqrt MathSqrt.sqrt.match_2
  simp only [Array.getLit, List.size_toArray, List.length_cons, List.length_nil, Nat.zero_add, dite_true, List.getElem_toArray, List.getElem_cons_zero]
  delta MathSqrt.sqrt._sparseCasesOn_2 MathSqrt.sqrt._sparseCasesOn_3
  dsimp only
  rw [h']
  rfl

theorem sqrtF_any (x r : Nat) (w : World) (h : double.sqrt x = some r) : Calls Tryz.prog 145 #[.float .f64 x] w fun e w' => e = .returned (.float .f64 r) ∧ w' = w := by
  have hF := @run_callFunc_extern Tryz.prog 174 _ MathSqrt.sqrt Tryz.func174 (by kernel_rfl) (by kernel_rfl) (by kernel_rfl) (by kernel_rfl)
  have cF : ∀ w, (MathSqrt.sqrt #[.float .f64 x]).run Tryz.prog w = .ok (.float .f64 r) w := fun w => c_sqrt w h
  go_enter Tryz.func145, Tryz.ntmps145
  go_wp2
  go_ret
  exact ⟨rfl, rfl⟩

theorem rootF_any (x b q d u : Nat) (hr : double.sqrt x = some b) (hq : double.fma (negW b) b x = some q) (hA : Gives 141 #[.float .f64 b, .float .f64 q] d u) : Gives 95 #[.float .f64 x] d u := by
  intro w
  have hF := @run_callFunc_extern Tryz.prog 144 _ MathFMA.fma Tryz.func144 (by kernel_rfl) (by kernel_rfl) (by kernel_rfl) (by kernel_rfl)
  have cF : ∀ w, (MathFMA.fma #[.float .f64 (negW b), .float .f64 b, .float .f64 x]).run Tryz.prog w = .ok (.float .f64 q) w := fun w => c_fma w hq
  have cN : ∀ w, (Op.unary .neg (.float .f64 b)).run Tryz.prog w = .ok (.float .f64 (negW b)) w := fun w => run_neg_float w _
  have hS := fun w => sqrtF_any x b w hr
  have HA : Hid (Gives 141 #[.float .f64 b, .float .f64 q] d u) := hA
  clear hr hq hA
  generalize negW b = nb at *
  go_enter Tryz.func95, Tryz.ntmps95
  go_wp2_with fail
  refine Calls.mono (hS _) ?_
  rintro e w' ⟨rfl, rfl⟩
  go_wp2_with fail
  refine Calls.mono (HA.out _) ?_
  rintro e w1 ⟨rfl, hb1⟩
  have B0 := blk_below (blk_new w _) hb1
  obtain ⟨k0, k1, k2, k3⟩ := blk2 B0
  have HB1 : Hid (Below w.heap.size w w1) := ((Below.refl _ _).alloc (Nat.le_refl _) _).trans (hb1.mono (by simp))
  clear hb1 B0 HA
  go_wp2
  refine bodyPost_ret (v := .agg #[.float .f64 d, .float .f64 u]) (by simp [results, Tryz.results95, go_sem, k0, k1]) rfl ?_
  exact ⟨rfl, (HB1.out.setCell (by simp) _).setCell (by simp) _⟩
end Go.Proofs.YtonhpkigoplmaaaGreatDoor
namespace Go.Proofs.YtonhpkigoplmaaaGreatDoor
open Go.RowKit Go.Extern Ieee

/-- N is c at a power of two (then ex), or lies strictly between c and c + 1. -/
def MarkOf (c : Nat) (ex : Prop) (k N : Nat) : Prop := (ex ∧ N = c * 2 ^ k) ∨ (¬ ex ∧ c * 2 ^ k < N ∧ N < (c + 1) * 2 ^ k)

theorem MarkOf.ne {c : Nat} {ex : Prop} {k N : Nat} (h : MarkOf c ex k N) (hc : 4503599627370496 ≤ c) : N ≠ 0 := by
  have hp := Nat.two_pow_pos k
  rcases h with ⟨_, rfl⟩ | ⟨_, h1, _⟩
  · exact Nat.mul_ne_zero (by omega) (by omega)
  · omega

theorem MarkOf.endR {c : Nat} {ex : Prop} {k l N M : Nat} (h : MarkOf c ex k N) (g : MarkOf c ex l M) (hc : 4503599627370496 ≤ c) (s : Bool) (e f way : Int) (he : e + k = f + l) : endR s N e way = endR s M f way := by
  rcases h with ⟨x, rfl⟩ | ⟨x, h1, h2⟩
  · rcases g with ⟨_, rfl⟩ | ⟨y, _⟩
    · rw [endR_shift s (by omega), endR_shift s (by omega), he]
    · exact absurd x y
  · rcases g with ⟨y, _⟩ | ⟨_, g1, g2⟩
    · exact absurd y x
    · rw [sticky_end s hc h1 h2, sticky_end s hc g1 g2, he]

theorem MarkOf.posV {c : Nat} {ex : Prop} {k l N M : Nat} (h : MarkOf c ex k N) (g : MarkOf c ex l M) (hc : 4503599627370496 ≤ c) (s : Bool) (e f way : Int) (he : e + k = f + l) : posV (s, N, e) way = posV (s, M, f) way := by
  unfold Go.Proofs.YtonhpkigoplmaaaGreatDoor.posV
  rw [if_neg (h.ne hc), if_neg (g.ne hc)]
  simp only
  rw [h.endR g hc s e f way he]

theorem MarkOf.ends {c : Nat} {ex : Prop} {k l N M : Nat} (h : MarkOf c ex k N) (g : MarkOf c ex l M) (hc : 4503599627370496 ≤ c) {s : Bool} {e f : Int} {d u : Nat} (he : e + k = f + l) (hE : Ends (s, N, e) d u) : Ends (s, M, f) d u := by
  unfold Ends at *
  rw [← h.posV g hc s e f (-1) he, ← h.posV g hc s e f 1 he]
  exact hE

/-- The nearest float of a number of more than 53 bits is even. -/
theorem nearM_even {n : Nat} (h : 54 ≤ bl n) : nearM n % 2 = 0 := by
  unfold nearM
  rw [if_neg (by omega), show bl n - 53 = (bl n - 54) + 1 by omega, Nat.pow_succ, ← Nat.mul_assoc]
  omega

/-- The sign of an exact value against the nearest float, by the sign of the marked number against it. A: the exact value times B; N1 = 2 * c, or 2 * c + 1. -/
theorem mark_sign {A B c M N1 : Nat} (hB : 0 < B) (hM : M % 2 = 0) (h : (A = 2 * c * B ∧ N1 = 2 * c) ∨ (2 * c * B < A ∧ A < (2 * c + 2) * B ∧ N1 = 2 * c + 1)) : (N1 < M ↔ A < M * B) ∧ (N1 = M ↔ A = M * B) := by
  rcases h with ⟨rfl, rfl⟩ | ⟨h1, h2, rfl⟩
  · constructor
    · exact (Nat.mul_lt_mul_right hB).symm
    · exact (Nat.mul_right_cancel_iff hB).symm
  · rcases (show M ≤ 2 * c ∨ 2 * c + 2 ≤ M by omega) with h | h
    · have := Nat.mul_le_mul_right B h
      constructor
      · constructor <;> intro _ <;> omega
      · constructor <;> intro _ <;> omega
    · have := Nat.mul_le_mul_right B h
      constructor
      · constructor <;> intro _ <;> omega
      · constructor <;> intro _ <;> omega

/-- A quotient at two finenesses. -/
theorem quo_mark {m n c k : Nat} (hn : 0 < n) (hc : c = m / n) : MarkOf c (m % n = 0) (k + 1) (2 * (m * 2 ^ k / n) + if m * 2 ^ k % n = 0 then 0 else 1) := by
  have hp := Nat.two_pow_pos k
  have hd := Nat.div_add_mod m n
  have hl := Nat.mod_lt m hn
  have hd2 := Nat.div_add_mod (m * 2 ^ k) n
  have hl2 := Nat.mod_lt (m * 2 ^ k) hn
  rw [← hc] at hd
  rw [MarkOf, Nat.pow_succ]
  generalize 2 ^ k = g at *
  by_cases h0 : m % n = 0
  · left
    refine ⟨h0, ?_⟩
    rw [h0, Nat.add_zero] at hd
    have e : m * g = n * (c * g) := by rw [← hd, Nat.mul_assoc]
    rw [e, Nat.mul_mod_right, if_pos rfl, Nat.mul_div_cancel_left _ hn, Nat.add_zero, ← Nat.mul_assoc c, Nat.mul_comm]
  · right
    refine ⟨h0, ?_⟩
    have a1 : n * (c * g) < m * g := by
      rw [← Nat.mul_assoc]
      exact Nat.mul_lt_mul_of_pos_right (by omega) hp
    have a2 : m * g < n * ((c + 1) * g) := by
      rw [← Nat.mul_assoc]
      exact Nat.mul_lt_mul_of_pos_right (by rw [Nat.mul_add]; omega) hp
    generalize m * g / n = Q at *
    generalize m * g % n = r at *
    have b1 : c * g ≤ Q := by
      have : n * (c * g) < n * (Q + 1) := by rw [Nat.mul_add]; omega
      have := Nat.lt_of_mul_lt_mul_left this
      omega
    have b2 : Q < (c + 1) * g := by
      have : n * Q < n * ((c + 1) * g) := by omega
      exact Nat.lt_of_mul_lt_mul_left this
    have e1 : c * (g * 2) = 2 * (c * g) := by rw [← Nat.mul_assoc, Nat.mul_comm]
    have e2 : (c + 1) * (g * 2) = 2 * ((c + 1) * g) := by rw [← Nat.mul_assoc, Nat.mul_comm]
    rw [e1, e2]
    by_cases hr : r = 0
    · rw [if_pos hr]
      have : c * g ≠ Q := by
        rintro rfl
        omega
      omega
    · rw [if_neg hr]; omega
end Go.Proofs.YtonhpkigoplmaaaGreatDoor
namespace Go.Proofs.YtonhpkigoplmaaaGreatDoor
open Go.RowKit Go.Extern Ieee

/-- What encloseref.marked gives. -/
def markN (s : Bool) (q : Nat) (e : Int) (whole : Bool) : Bool × Nat × Int := (s && decide (2 * q + (if whole then 0 else 1) ≠ 0), 2 * q + (if whole then 0 else 1), e - 1)

/-- What encloseref.quotient gives. -/
def quoN (x y : Bool × Nat × Int) : Bool × Nat × Int :=
  markN (x.1 != y.1) (x.2.1 * 2 ^ (60 + bl y.2.1) / y.2.1) (x.2.2 - (60 + bl y.2.1 : Nat) - y.2.2) (decide (x.2.1 * 2 ^ (60 + bl y.2.1) % y.2.1 = 0))

theorem order_negW {q : Nat} {o : Ordering} (hq : q < 18446744073709551616) (hn : q % 9223372036854775808 ≤ 9218868437227405312) (h : FloatKind.f64.format.order q 0 = some o) : FloatKind.f64.format.order (negW q) 0 = some o.swap := by
  have hz : (0 : Nat) = wd false 0 := rfl
  have e : ∀ x : Int, compare (-x) 0 = (compare x 0).swap := by
    intro x
    rcases (show x < 0 ∨ x = 0 ∨ 0 < x by omega) with h | h | h
    · rw [cmp_lt' h, cmp_gt' (show (0 : Int) < -x by omega)]; rfl
    · rw [cmp_eq' h, cmp_eq' (show -x = 0 by omega)]; rfl
    · rw [cmp_gt' h, cmp_lt' (show -x < (0 : Int) by omega)]; rfl
  change double.order q 0 = some o at h
  show double.order (negW q) 0 = _
  rw [← wd_self hq] at h ⊢
  rw [hz] at h ⊢
  rw [negW_wd (by omega), order_wd hn (by omega)]
  rw [order_wd hn (by omega)] at h
  cases h
  have e1 : sg false 0 = 0 := rfl
  rw [e1, ← e]
  congr 2
  unfold sg
  cases decide (9223372036854775808 ≤ q) <;> simp

theorem nearest_lt (s : Bool) (n : Nat) (e : Int) : double.nearest s n e < 18446744073709551616 ∧ double.nearest s n e % 9223372036854775808 ≤ 9218868437227405312 := by
  have key : ∀ R, R ≤ 9218868437227405312 → wd s R < 18446744073709551616 ∧ wd s R % 9223372036854775808 ≤ 9218868437227405312 := by
    intro R h
    have : wd s R % 9223372036854775808 = R := by unfold wd; split <;> omega
    exact ⟨wd_lt (by omega), by omega⟩
  by_cases h0 : n = 0
  · subst h0
    have : double.nearest s 0 e = wd s 0 := by cases s <;> rfl
    rw [this]; exact key 0 (by omega)
  · obtain ⟨R, h1, h2, _⟩ := nearest_any s e h0
    rw [h1]; exact key R h2

theorem sum_write3 (s t : Bool) (m n : Nat) (i j : Int) : ∃ q o, (Datum.sum (.number s m i) (.number t n j)).map double.write = some q ∧ FloatKind.f64.format.order q 0 = some o ∧ q < 18446744073709551616 ∧ q % 9223372036854775808 ≤ 9218868437227405312 := by
  obtain ⟨o, ho⟩ := order_write (if signed s m (i - min i j).toNat + signed t n (j - min i j).toNat = 0 then s && t else decide (signed s m (i - min i j).toNat + signed t n (j - min i j).toNat < 0)) (signed s m (i - min i j).toNat + signed t n (j - min i j).toNat).natAbs (min i j)
  obtain ⟨h1, h2⟩ := nearest_lt (if signed s m (i - min i j).toNat + signed t n (j - min i j).toNat = 0 then s && t else decide (signed s m (i - min i j).toNat + signed t n (j - min i j).toNat < 0)) (signed s m (i - min i j).toNat + signed t n (j - min i j).toNat).natAbs (min i j)
  exact ⟨_, o, rfl, ho, h1, h2⟩

theorem sum_write2 (s t : Bool) (m n : Nat) (i j : Int) (b : Bool) : ∃ q o, (Datum.sum (.number s m i) (.number t n j)).map double.write = some q ∧ FloatKind.f64.format.order (if b then negW q else q) 0 = some o := by
  obtain ⟨q, o, h0, ho, h1, h2⟩ := sum_write3 s t m n i j
  cases b
  · refine ⟨q, o, h0, ?_⟩
    rw [if_neg Bool.false_ne_true]; exact ho
  · refine ⟨q, o.swap, h0, ?_⟩
    rw [if_pos rfl]; exact order_negW h1 h2 ho

/-- The sign of a number. -/
def sgnO (z : Int) : Ordering := if z = 0 then .eq else if z < 0 then .lt else .gt

theorem sgnO_sg {s : Bool} {x y : Int} (h1 : x < 0 ↔ y < 0) (h2 : x = 0 ↔ y = 0) : sgnO (if s then -x else x) = sgnO (if s then -y else y) := by
  unfold sgnO
  cases s
  · simp only [Bool.false_eq_true, if_false]
    by_cases hx : x = 0
    · rw [if_pos hx, if_pos (h2.1 hx)]
    · rw [if_neg hx, if_neg (fun h => hx (h2.2 h))]
      by_cases hl : x < 0
      · rw [if_pos hl, if_pos (h1.1 hl)]
      · rw [if_neg hl, if_neg (fun h => hl (h1.2 h))]
  · simp only [if_true]
    by_cases hx : x = 0
    · have := h2.1 hx
      rw [if_pos (show -x = 0 by omega), if_pos (show -y = 0 by omega)]
    · have hy : ¬ y = 0 := fun h => hx (h2.2 h)
      rw [if_neg (show ¬ -x = 0 by omega), if_neg (show ¬ -y = 0 by omega)]
      by_cases hl : x < 0
      · have := h1.1 hl
        rw [if_neg (show ¬ -x < 0 by omega), if_neg (show ¬ -y < 0 by omega)]
      · have : ¬ y < 0 := fun h => hl (h1.2 h)
        rw [if_pos (show -x < 0 by omega), if_pos (show -y < 0 by omega)]

theorem sgnO_swap (x : Int) : (sgnO x).swap = sgnO (-x) := by
  unfold sgnO
  rcases (show x < 0 ∨ x = 0 ∨ 0 < x by omega) with h | h | h
  · rw [if_neg (by omega), if_pos h, if_neg (by omega), if_neg (by omega)]; rfl
  · rw [if_pos h, if_pos (by omega)]; rfl
  · rw [if_neg (by omega), if_neg (by omega), if_neg (by omega), if_pos (by omega)]; rfl
end Go.Proofs.YtonhpkigoplmaaaGreatDoor
namespace Go.Proofs.YtonhpkigoplmaaaGreatDoor
open Go.RowKit Go.Extern Ieee

/-- The quotient of two floats' numbers, to 55 bits and a mark. -/
def q1 (m n : Nat) : Nat := 2 * (m * 2 ^ 54 / n) + if m * 2 ^ 54 % n = 0 then 0 else 1

theorem q1_bounds {m n : Nat} (h1 : 4503599627370496 ≤ m) (h2 : m < 9007199254740992) (h3 : 4503599627370496 ≤ n) (h4 : n < 9007199254740992) :
    9007199254740992 ≤ m * 2 ^ 54 / n ∧ m * 2 ^ 54 / n < 36028797018963968 := by
  have p54 : (2 : Nat) ^ 54 = 18014398509481984 := by decide
  rw [p54]
  constructor
  · rw [Nat.le_div_iff_mul_le (by omega)]; omega
  · rw [Nat.div_lt_iff_lt_mul (by omega)]; omega

theorem q1_bl {m n : Nat} (h1 : 4503599627370496 ≤ m) (h2 : m < 9007199254740992) (h3 : 4503599627370496 ≤ n) (h4 : n < 9007199254740992) : 55 ≤ bl (q1 m n) ∧ bl (q1 m n) ≤ 56 := by
  obtain ⟨c1, c2⟩ := q1_bounds h1 h2 h3 h4
  have p54 : (2 : Nat) ^ 54 = 18014398509481984 := by decide
  have p56 : (2 : Nat) ^ 56 = 72057594037927936 := by decide
  constructor
  · apply bl_gt
    rw [p54]
    unfold q1
    omega
  · apply bl_le
    rw [p56]
    unfold q1
    split <;> omega

theorem div_plain {x y : Nat} {sx sy : Bool} {mx my : Nat} {ex ey : Int} (rx : double.read x = .number sx mx ex) (ry : double.read y = .number sy my ey) (x1 : 4503599627370496 ≤ mx) (x2 : mx < 9007199254740992) (y1 : 4503599627370496 ≤ my) (y2 : my < 9007199254740992) :
    double.div x y = some (double.nearest (sx ^^ sy) (q1 mx my) (ex - ey - 55)) := by
  have l1 := bl_log2 (n := mx) (by omega)
  have l2 := bl_log2 (n := my) (by omega)
  rw [bl53 x1 x2] at l1
  rw [bl53 y1 y2] at l2
  have hfb : double.fractionBits = 52 := rfl
  unfold Format.div
  rw [rx, ry]
  simp only [Datum.quotient, hfb]
  rw [if_neg (by omega), show 52 + 2 + my.log2 - mx.log2 = 54 by omega, Nat.shiftLeft_eq]
  simp only [Option.map_some, Format.write]
  have e1 : ex - ey - ((54 : Nat) : Int) - 1 = ex - ey - 55 := by omega
  have e2 : 2 * (mx * 2 ^ 54 / my) + (mx * 2 ^ 54 % my != 0).toNat = q1 mx my := by
    unfold q1
    by_cases h : mx * 2 ^ 54 % my = 0
    · rw [h, if_pos rfl]; rfl
    · rw [if_neg h, (bne_iff_ne).2 h]; rfl
  rw [e1, e2]

/-- What is left of a quotient, times the divisor: its sign. -/
theorem quo_sign {m n : Nat} (h1 : 4503599627370496 ≤ m) (h2 : m < 9007199254740992) (h3 : 4503599627370496 ≤ n) (h4 : n < 9007199254740992) :
    (q1 m n < nearM (q1 m n) ↔ m * 2 ^ 55 < nearM (q1 m n) * n) ∧ (q1 m n = nearM (q1 m n) ↔ m * 2 ^ 55 = nearM (q1 m n) * n) := by
  have hd := Nat.div_add_mod (m * 2 ^ 54) n
  have hl := Nat.mod_lt (m * 2 ^ 54) (show 0 < n by omega)
  have e55 : m * 2 ^ 55 = 2 * (m * 2 ^ 54) := by rw [Nat.pow_succ 2 54, ← Nat.mul_assoc, Nat.mul_comm]
  refine mark_sign (c := m * 2 ^ 54 / n) (by omega) (nearM_even (by have := q1_bl h1 h2 h3 h4; omega)) ?_
  rw [e55]
  have a1 : 2 * (m * 2 ^ 54 / n) * n = 2 * (n * (m * 2 ^ 54 / n)) := by rw [Nat.mul_assoc, Nat.mul_comm n]
  have a2 : (2 * (m * 2 ^ 54 / n) + 2) * n = 2 * (n * (m * 2 ^ 54 / n)) + 2 * n := by rw [Nat.add_mul, a1]
  rw [a1, a2]
  unfold q1
  by_cases h0 : m * 2 ^ 54 % n = 0
  · left
    rw [if_pos h0]
    exact ⟨by omega, by omega⟩
  · right
    rw [if_neg h0]
    exact ⟨by omega, by omega, rfl⟩

theorem sg_sub (s : Bool) (a b : Nat) : sg s a - sg s b = if s then -((a : Int) - b) else (a : Int) - b := by
  unfold sg
  cases s
  · rfl
  · simp only [if_true]; omega

theorem fd_lt (e z : Int) : fd e z < 18446744073709551616 ∧ fd e z % 9223372036854775808 ≤ 9218868437227405312 := nearest_lt _ _ _

theorem quo_fin {sx sy : Bool} {f : Nat} {A : Int} (h1 : f < 18446744073709551616) (h2 : f % 9223372036854775808 ≤ 9218868437227405312) (h : FloatKind.f64.format.order f 0 = some (sgnO (if sx then -A else A))) :
    FloatKind.f64.format.order (if sy then negW f else f) 0 = some (sgnO (if (sx ^^ sy) then -A else A)) := by
  cases sy
  · rw [if_neg Bool.false_ne_true, Bool.xor_false]
    exact h
  · rw [if_pos rfl, Bool.xor_true]
    have := order_negW h1 h2 h
    rw [sgnO_swap] at this
    rw [this]
    cases sx
    · rw [if_neg Bool.false_ne_true, Bool.not_false, if_pos rfl]
    · rw [if_pos rfl, Int.neg_neg, Bool.not_true, if_neg Bool.false_ne_true]

theorem fma_num {a b c : Nat} {s t r : Bool} {m n k : Nat} {i j l : Int} (h1 : double.read a = .number s m i) (h2 : double.read b = .number t n j) (h3 : double.read c = .number r k l) :
    double.fma a b c = (Datum.sum (.number (s ^^ t) (m * n) (i + j)) (.number r k l)).map double.write := by
  unfold Format.fma
  rw [h1, h2, h3]; rfl

/-- The remainder in the middle of the range. -/
theorem quo_rest {x y : Nat} {sx sy : Bool} {mx my : Nat} {ex ey : Int} (rx : double.read x = .number sx mx ex) (ry : double.read y = .number sy my ey) (x1 : 4503599627370496 ≤ mx) (x2 : mx < 9007199254740992) (y1 : 4503599627370496 ≤ my) (y2 : my < 9007199254740992) (x3 : -952 ≤ ex) (x4 : ex ≤ 848) (he1 : -1022 ≤ ex - ey - 55) (he2 : ex - ey - 55 ≤ 940) :
    ∃ q, double.fma (negW (double.nearest (sx ^^ sy) (q1 mx my) (ex - ey - 55))) y x = some q ∧ FloatKind.f64.format.order (if sy then negW q else q) 0 = some (side (sx ^^ sy) (q1 mx my)) := by
  have hbl := q1_bl x1 x2 y1 y2
  have hn : q1 mx my ≠ 0 := by
    intro h
    rw [h] at hbl
    have : bl 0 = 0 := rfl
    omega
  obtain ⟨a1, a2, a3⟩ := sg_sign (s := (sx ^^ sy)) hn
  have hN0 : nearM (q1 mx my) ≠ 0 := (nearM_facts hn).1
  have hNb : bl (nearM (q1 mx my)) ≤ bl (q1 mx my) + 1 := (nearM_facts hn).2.2.2
  have habs := nearI_abs (sg (sx ^^ sy) (q1 mx my))
  rw [a2] at habs
  have hI : nearI (sg (sx ^^ sy) (q1 mx my)) = sg (sx ^^ sy) (nearM (q1 mx my)) := by
    unfold nearI
    rw [a1, a2]
  obtain ⟨b1, b2, b3⟩ := sg_sign (s := (sx ^^ sy)) hN0
  have hfd := nearest_fd (s := (sx ^^ sy)) (ex - ey - 55) hn
  have hnf := nearI_fd (e := ex - ey - 55) (z := sg (sx ^^ sy) (q1 mx my)) a3 he1 (by rw [a2]; omega)
  rw [hI] at hnf
  rw [hfd, ← hnf]
  have hrep : Rep (sg (sx ^^ sy) (nearM (q1 mx my))) := by rw [← hI]; exact nearI_rep _
  obtain ⟨t, m, p, h1, h2, h3, h4⟩ := read_fd (e := ex - ey - 55) (z := sg (sx ^^ sy) (nearM (q1 mx my))) ⟨he1, by rw [b2]; omega⟩ hrep
  have ht : t = (sx ^^ sy) := by rw [h4 b3, b1]
  have hlt : fd (ex - ey - 55) (sg (sx ^^ sy) (nearM (q1 mx my))) < 18446744073709551616 := (fd_lt _ _).1
  have hM1 : Means (ex - 55) (-sg (sx ^^ sy) (nearM (q1 mx my)) * sg sy my) ((!t) ^^ sy) (m * my) (p + ey) := by
    have := mul_means h2.opp (show Means ey (sg sy my) sy my ey from fun c _ _ => (sg_mul _ _ _).symm)
    rwa [show ex - ey - 55 + ey = ex - 55 by omega] at this
  have hM2 : Means (ex - 55) (sg sx mx * ((2 ^ 55 : Nat) : Int)) sx mx ex := means_low (show Means ex (sg sx mx) sx mx ex from fun c _ _ => (sg_mul _ _ _).symm) 55
  have htot : -sg (sx ^^ sy) (nearM (q1 mx my)) * sg sy my + sg sx mx * ((2 ^ 55 : Nat) : Int) = if sx then -(((mx * 2 ^ 55 : Nat) : Int) - ((nearM (q1 mx my) * my : Nat) : Int)) else ((mx * 2 ^ 55 : Nat) : Int) - ((nearM (q1 mx my) * my : Nat) : Int) := by
    rw [Int.neg_mul, ← sg_mul2, sg_mul, ← sg_sub]
    have : ((sx ^^ sy) ^^ sy) = sx := by cases sx <;> cases sy <;> rfl
    rw [this]
    omega
  have hsz : (-sg (sx ^^ sy) (nearM (q1 mx my)) * sg sy my + sg sx mx * ((2 ^ 55 : Nat) : Int)).natAbs < 2 ^ 111 := by
    rw [htot]
    have u1 : mx * 2 ^ 55 < 2 ^ 110 := by
      have : mx * 2 ^ 55 < 2 ^ 53 * 2 ^ 55 := Nat.mul_lt_mul_of_pos_right (by rw [p53]; exact x2) (Nat.two_pow_pos _)
      rw [← Nat.pow_add] at this
      exact Nat.lt_of_lt_of_le this (pow_mono (by omega))
    have u2 : nearM (q1 mx my) * my < 2 ^ 110 := by
      have v1 : nearM (q1 mx my) < 2 ^ 57 := Nat.lt_of_lt_of_le (bl_bounds (Nat.pos_of_ne_zero hN0)).2.1 (pow_mono (by omega))
      have : nearM (q1 mx my) * my < 2 ^ 57 * 2 ^ 53 := Nat.mul_lt_mul'' v1 (by rw [p53]; exact y2)
      rwa [← Nat.pow_add] at this
    have u3 : (2 : Nat) ^ 111 = 2 * 2 ^ 110 := by rw [Nat.pow_succ 2 110, Nat.mul_comm]
    generalize (2 : Nat) ^ 110 = g at *
    generalize mx * 2 ^ 55 = a at *
    generalize nearM (q1 mx my) * my = b at *
    split <;> omega
  have hbt := bl_le hsz
  have hF : Fits (ex - 55) (-sg (sx ^^ sy) (nearM (q1 mx my)) * sg sy my + sg sx mx * ((2 ^ 55 : Nat) : Int)) := ⟨by omega, by omega⟩
  have hsum := sum_means hM1 hM2 hF (by
    intro _
    rw [ht]
    cases sx <;> cases sy <;> rfl)
  have hord : FloatKind.f64.format.order _ 0 = some (sgnO _) := ord_fd hF (by omega)
  have hq2 := fd_lt (ex - 55) (-sg (sx ^^ sy) (nearM (q1 mx my)) * sg sy my + sg sx mx * ((2 ^ 55 : Nat) : Int))
  clear hF hbt hsz
  generalize -sg (sx ^^ sy) (nearM (q1 mx my)) * sg sy my + sg sx mx * ((2 ^ 55 : Nat) : Int) = T at *
  refine ⟨fd (ex - 55) T, ?_, ?_⟩
  · have hr := read_negW hlt
    rw [h1] at hr
    rw [fma_num hr ry rx]
    exact hsum
  · have hside := near_side (sg (sx ^^ sy) (q1 mx my))
    rw [a1, a2, hI, sg_sub] at hside
    rw [← hside]
    obtain ⟨s1, s2⟩ := quo_sign x1 x2 y1 y2
    refine quo_fin hq2.1 hq2.2 ?_
    rw [hord, htot]
    congr 1
    apply sgnO_sg
    · omega
    · omega
end Go.Proofs.YtonhpkigoplmaaaGreatDoor
