/-
  QuoF, MarkM, QuoM, QuoP, QuoQ, RootM, RootP, RefP.
-/
import Derived.Test.YtonhpkigoplmaaaGreatDoorP08
import Derived.Test.YtonhpkigoplmaaaGreatDoorP05
namespace Go.Proofs.YtonhpkigoplmaaaGreatDoor
open Go.RowKit Go.Extern Ieee
attribute [local go_sem] run_store_float

theorem quotientF_zero (x y : Nat) (hx : FloatKind.f64.format.order x 0 = some .eq) : Gives 94 #[.float .f64 x, .float .f64 y] 0 0 := by
  intro w
  go_enter Tryz.func94, Tryz.ntmps94
  go_wp2
  refine bodyPost_ret (v := .agg #[.float .f64 0, .float .f64 0]) (by simp [results, Tryz.results94, go_sem]) rfl ?_
  exact ⟨rfl, (Below.refl _ _).alloc (Nat.le_refl _) _⟩

theorem quotientF_lost (x y : Nat) (sx sy : Bool) (s : Bool) (R : Nat) (hx : FloatKind.f64.format.order x 0 = some (if sx then .lt else .gt)) (hy : FloatKind.f64.format.order y 0 = some (if sy then .lt else .gt)) (hm : double.div x y = some (wd s R)) (hR : R < 103582791429521408) :
    Gives 94 #[.float .f64 x, .float .f64 y] (wd (sx ^^ sy) 103582791429521408) (wd (sx ^^ sy) 103582791429521408) := by
  intro w
  have g1 : ∀ w, (binOp .quo 65 (.float .f64 x) (.float .f64 y)).run Tryz.prog w = .ok (.float .f64 (wd s R)) w := fun w => run_float_arith w .quo _ .f64 x y _ hm
  have hL := isLost_any s R
  rw [decide_eq_true hR] at hL
  have HL : Hid (Gives 143 #[.bool (sx ^^ sy)] (wd (sx ^^ sy) 103582791429521408) (wd (sx ^^ sy) 103582791429521408)) := lost_any (sx ^^ sy)
  have hR : R ≤ 9218868437227405312 := by omega
  generalize wd (sx ^^ sy) 103582791429521408 = l at *
  clear hm
  generalize wd s R = b at *
  cases sx <;> cases sy
  · have hx' : FloatKind.f64.format.order x 0 = some .gt := hx
    have hy' : FloatKind.f64.format.order y 0 = some .gt := hy
    clear hx hy
    go_enter Tryz.func94, Tryz.ntmps94
    go_wp2_with fail
    refine Calls.mono (hL _ hR) ?_
    rintro e w' ⟨rfl, rfl⟩
    go_wp2_with fail
    refine Calls.mono (HL.out _) ?_
    rintro e w1 ⟨rfl, hb1⟩
    have B0 := blk_below (blk_new w _) hb1
    obtain ⟨k0, k1, k2, k3⟩ := blk2 B0
    have HB1 : Hid (Below w.heap.size w w1) := ((Below.refl _ _).alloc (Nat.le_refl _) _).trans (hb1.mono (by simp))
    clear hb1 B0 HL
    go_wp2
    refine bodyPost_ret (v := .agg #[.float .f64 l, .float .f64 l]) (by simp [results, Tryz.results94, go_sem, k0, k1]) rfl ?_
    exact ⟨rfl, (HB1.out.setCell (by simp) _).setCell (by simp) _⟩
  · have hx' : FloatKind.f64.format.order x 0 = some .gt := hx
    have hy' : FloatKind.f64.format.order y 0 = some .lt := hy
    clear hx hy
    go_enter Tryz.func94, Tryz.ntmps94
    go_wp2_with fail
    refine Calls.mono (hL _ hR) ?_
    rintro e w' ⟨rfl, rfl⟩
    go_wp2_with fail
    refine Calls.mono (HL.out _) ?_
    rintro e w1 ⟨rfl, hb1⟩
    have B0 := blk_below (blk_new w _) hb1
    obtain ⟨k0, k1, k2, k3⟩ := blk2 B0
    have HB1 : Hid (Below w.heap.size w w1) := ((Below.refl _ _).alloc (Nat.le_refl _) _).trans (hb1.mono (by simp))
    clear hb1 B0 HL
    go_wp2
    refine bodyPost_ret (v := .agg #[.float .f64 l, .float .f64 l]) (by simp [results, Tryz.results94, go_sem, k0, k1]) rfl ?_
    exact ⟨rfl, (HB1.out.setCell (by simp) _).setCell (by simp) _⟩
  · have hx' : FloatKind.f64.format.order x 0 = some .lt := hx
    have hy' : FloatKind.f64.format.order y 0 = some .gt := hy
    clear hx hy
    go_enter Tryz.func94, Tryz.ntmps94
    go_wp2_with fail
    refine Calls.mono (hL _ hR) ?_
    rintro e w' ⟨rfl, rfl⟩
    go_wp2_with fail
    refine Calls.mono (HL.out _) ?_
    rintro e w1 ⟨rfl, hb1⟩
    have B0 := blk_below (blk_new w _) hb1
    obtain ⟨k0, k1, k2, k3⟩ := blk2 B0
    have HB1 : Hid (Below w.heap.size w w1) := ((Below.refl _ _).alloc (Nat.le_refl _) _).trans (hb1.mono (by simp))
    clear hb1 B0 HL
    go_wp2
    refine bodyPost_ret (v := .agg #[.float .f64 l, .float .f64 l]) (by simp [results, Tryz.results94, go_sem, k0, k1]) rfl ?_
    exact ⟨rfl, (HB1.out.setCell (by simp) _).setCell (by simp) _⟩
  · have hx' : FloatKind.f64.format.order x 0 = some .lt := hx
    have hy' : FloatKind.f64.format.order y 0 = some .lt := hy
    clear hx hy
    go_enter Tryz.func94, Tryz.ntmps94
    go_wp2_with fail
    refine Calls.mono (hL _ hR) ?_
    rintro e w' ⟨rfl, rfl⟩
    go_wp2_with fail
    refine Calls.mono (HL.out _) ?_
    rintro e w1 ⟨rfl, hb1⟩
    have B0 := blk_below (blk_new w _) hb1
    obtain ⟨k0, k1, k2, k3⟩ := blk2 B0
    have HB1 : Hid (Below w.heap.size w w1) := ((Below.refl _ _).alloc (Nat.le_refl _) _).trans (hb1.mono (by simp))
    clear hb1 B0 HL
    go_wp2
    refine bodyPost_ret (v := .agg #[.float .f64 l, .float .f64 l]) (by simp [results, Tryz.results94, go_sem, k0, k1]) rfl ?_
    exact ⟨rfl, (HB1.out.setCell (by simp) _).setCell (by simp) _⟩

theorem quotientF_main (x y : Nat) (sx sy : Bool) (s : Bool) (R q d u : Nat) (hx : FloatKind.f64.format.order x 0 = some (if sx then .lt else .gt)) (hy : FloatKind.f64.format.order y 0 = some (if sy then .lt else .gt)) (hm : double.div x y = some (wd s R)) (hR : ¬ R < 103582791429521408) (hR2 : R ≤ 9218868437227405312) (hq : double.fma (negW (wd s R)) y x = some q)
    (hA : Gives 141 #[.float .f64 (wd s R), .float .f64 (if sy then negW q else q)] d u) : Gives 94 #[.float .f64 x, .float .f64 y] d u := by
  intro w
  have g1 : ∀ w, (binOp .quo 65 (.float .f64 x) (.float .f64 y)).run Tryz.prog w = .ok (.float .f64 (wd s R)) w := fun w => run_float_arith w .quo _ .f64 x y _ hm
  have hF := @run_callFunc_extern Tryz.prog 144 _ MathFMA.fma Tryz.func144 (by kernel_rfl) (by kernel_rfl) (by kernel_rfl) (by kernel_rfl)
  have cF : ∀ w, (MathFMA.fma #[.float .f64 (negW (wd s R)), .float .f64 y, .float .f64 x]).run Tryz.prog w = .ok (.float .f64 q) w := fun w => c_fma w hq
  have cN : ∀ w, (Op.unary .neg (.float .f64 (wd s R))).run Tryz.prog w = .ok (.float .f64 (negW (wd s R))) w := fun w => run_neg_float w _
  have cQ : ∀ w, (Op.unary .neg (.float .f64 q)).run Tryz.prog w = .ok (.float .f64 (negW q)) w := fun w => run_neg_float w _
  have hL := isLost_any s R
  rw [decide_eq_false hR] at hL
  have HA : Hid (Gives 141 #[.float .f64 (wd s R), .float .f64 (if sy then negW q else q)] d u) := hA
  clear hm hq hA
  generalize negW (wd s R) = nb at *
  generalize negW q = nq at *
  generalize wd s R = b at *
  cases sx <;> cases sy
  · have hx' : FloatKind.f64.format.order x 0 = some .gt := hx
    have hy' : FloatKind.f64.format.order y 0 = some .gt := hy
    clear hx hy
    go_enter Tryz.func94, Tryz.ntmps94
    go_wp2_with fail
    refine Calls.mono (hL _ hR2) ?_
    rintro e w' ⟨rfl, rfl⟩
    go_wp2_with fail
    refine Calls.mono (HA.out _) ?_
    rintro e w1 ⟨rfl, hb1⟩
    have B0 := blk_below (blk_new w _) hb1
    obtain ⟨k0, k1, k2, k3⟩ := blk2 B0
    have HB1 : Hid (Below w.heap.size w w1) := ((Below.refl _ _).alloc (Nat.le_refl _) _).trans (hb1.mono (by simp))
    clear hb1 B0 HA
    go_wp2
    refine bodyPost_ret (v := .agg #[.float .f64 d, .float .f64 u]) (by simp [results, Tryz.results94, go_sem, k0, k1]) rfl ?_
    exact ⟨rfl, (HB1.out.setCell (by simp) _).setCell (by simp) _⟩
  · have hx' : FloatKind.f64.format.order x 0 = some .gt := hx
    have hy' : FloatKind.f64.format.order y 0 = some .lt := hy
    clear hx hy
    go_enter Tryz.func94, Tryz.ntmps94
    go_wp2_with fail
    refine Calls.mono (hL _ hR2) ?_
    rintro e w' ⟨rfl, rfl⟩
    go_wp2_with fail
    refine Calls.mono (HA.out _) ?_
    rintro e w1 ⟨rfl, hb1⟩
    have B0 := blk_below (blk_new w _) hb1
    obtain ⟨k0, k1, k2, k3⟩ := blk2 B0
    have HB1 : Hid (Below w.heap.size w w1) := ((Below.refl _ _).alloc (Nat.le_refl _) _).trans (hb1.mono (by simp))
    clear hb1 B0 HA
    go_wp2
    refine bodyPost_ret (v := .agg #[.float .f64 d, .float .f64 u]) (by simp [results, Tryz.results94, go_sem, k0, k1]) rfl ?_
    exact ⟨rfl, (HB1.out.setCell (by simp) _).setCell (by simp) _⟩
  · have hx' : FloatKind.f64.format.order x 0 = some .lt := hx
    have hy' : FloatKind.f64.format.order y 0 = some .gt := hy
    clear hx hy
    go_enter Tryz.func94, Tryz.ntmps94
    go_wp2_with fail
    refine Calls.mono (hL _ hR2) ?_
    rintro e w' ⟨rfl, rfl⟩
    go_wp2_with fail
    refine Calls.mono (HA.out _) ?_
    rintro e w1 ⟨rfl, hb1⟩
    have B0 := blk_below (blk_new w _) hb1
    obtain ⟨k0, k1, k2, k3⟩ := blk2 B0
    have HB1 : Hid (Below w.heap.size w w1) := ((Below.refl _ _).alloc (Nat.le_refl _) _).trans (hb1.mono (by simp))
    clear hb1 B0 HA
    go_wp2
    refine bodyPost_ret (v := .agg #[.float .f64 d, .float .f64 u]) (by simp [results, Tryz.results94, go_sem, k0, k1]) rfl ?_
    exact ⟨rfl, (HB1.out.setCell (by simp) _).setCell (by simp) _⟩
  · have hx' : FloatKind.f64.format.order x 0 = some .lt := hx
    have hy' : FloatKind.f64.format.order y 0 = some .lt := hy
    clear hx hy
    go_enter Tryz.func94, Tryz.ntmps94
    go_wp2_with fail
    refine Calls.mono (hL _ hR2) ?_
    rintro e w' ⟨rfl, rfl⟩
    go_wp2_with fail
    refine Calls.mono (HA.out _) ?_
    rintro e w1 ⟨rfl, hb1⟩
    have B0 := blk_below (blk_new w _) hb1
    obtain ⟨k0, k1, k2, k3⟩ := blk2 B0
    have HB1 : Hid (Below w.heap.size w w1) := ((Below.refl _ _).alloc (Nat.le_refl _) _).trans (hb1.mono (by simp))
    clear hb1 B0 HA
    go_wp2
    refine bodyPost_ret (v := .agg #[.float .f64 d, .float .f64 u]) (by simp [results, Tryz.results94, go_sem, k0, k1]) rfl ?_
    exact ⟨rfl, (HB1.out.setCell (by simp) _).setCell (by simp) _⟩

theorem c_sqrt {P : Program} (w : World) {x r : Nat} (h : double.sqrt x = some r) : (MathSqrt.sqrt #[.float .f64 x]).run P w = .ok (.float .f64 r) w := by
  have h' : FloatKind.f64.format.sqrt x = some r := h
  delta MathSqrt.sqrt MathSqrt.sqrt.match_2
  simp only [Array.getLit, List.size_toArray, List.length_cons, List.length_nil, Nat.zero_add, dite_true, List.getElem_toArray, List.getElem_cons_zero]
  delta MathSqrt.sqrt._sparseCasesOn_2 MathSqrt.sqrt._sparseCasesOn_3
  dsimp only
  rw [h']
  rfl

theorem sqrtF_any (x r : Nat) (w : World) (h : double.sqrt x = some r) : Calls Tryz.prog 145 #[.float .f64 x] w fun e w' => e = .returned (.float .f64 r) ∧ w' = w := by
  have hF := @run_callFunc_extern Tryz.prog 174 _ MathSqrt.sqrt Tryz.func174 (by kernel_rfl) (by kernel_rfl) (by kernel_rfl) (by kernel_rfl)
  have cF : ∀ w, (MathSqrt.sqrt #[.float .f64 x]).run Tryz.prog w = .ok (.float .f64 r) w := fun w => c_sqrt w h
  go_enter Tryz.func145, Tryz.ntmps145
  go_wp2
  go_ret
  exact ⟨rfl, rfl⟩

theorem rootF_any (x b q d u : Nat) (hr : double.sqrt x = some b) (hq : double.fma (negW b) b x = some q) (hA : Gives 141 #[.float .f64 b, .float .f64 q] d u) : Gives 95 #[.float .f64 x] d u := by
  intro w
  have hF := @run_callFunc_extern Tryz.prog 144 _ MathFMA.fma Tryz.func144 (by kernel_rfl) (by kernel_rfl) (by kernel_rfl) (by kernel_rfl)
  have cF : ∀ w, (MathFMA.fma #[.float .f64 (negW b), .float .f64 b, .float .f64 x]).run Tryz.prog w = .ok (.float .f64 q) w := fun w => c_fma w hq
  have cN : ∀ w, (Op.unary .neg (.float .f64 b)).run Tryz.prog w = .ok (.float .f64 (negW b)) w := fun w => run_neg_float w _
  have hS := fun w => sqrtF_any x b w hr
  have HA : Hid (Gives 141 #[.float .f64 b, .float .f64 q] d u) := hA
  clear hr hq hA
  generalize negW b = nb at *
  go_enter Tryz.func95, Tryz.ntmps95
  go_wp2_with fail
  refine Calls.mono (hS _) ?_
  rintro e w' ⟨rfl, rfl⟩
  go_wp2_with fail
  refine Calls.mono (HA.out _) ?_
  rintro e w1 ⟨rfl, hb1⟩
  have B0 := blk_below (blk_new w _) hb1
  obtain ⟨k0, k1, k2, k3⟩ := blk2 B0
  have HB1 : Hid (Below w.heap.size w w1) := ((Below.refl _ _).alloc (Nat.le_refl _) _).trans (hb1.mono (by simp))
  clear hb1 B0 HA
  go_wp2
  refine bodyPost_ret (v := .agg #[.float .f64 d, .float .f64 u]) (by simp [results, Tryz.results95, go_sem, k0, k1]) rfl ?_
  exact ⟨rfl, (HB1.out.setCell (by simp) _).setCell (by simp) _⟩
end Go.Proofs.YtonhpkigoplmaaaGreatDoor
namespace Go.Proofs.YtonhpkigoplmaaaGreatDoor
open Go.RowKit Go.Extern Ieee

/-- N is c at a power of two (then ex), or lies strictly between c and c + 1. -/
def MarkOf (c : Nat) (ex : Prop) (k N : Nat) : Prop := (ex ∧ N = c * 2 ^ k) ∨ (¬ ex ∧ c * 2 ^ k < N ∧ N < (c + 1) * 2 ^ k)

theorem MarkOf.ne {c : Nat} {ex : Prop} {k N : Nat} (h : MarkOf c ex k N) (hc : 4503599627370496 ≤ c) : N ≠ 0 := by
  have hp := Nat.two_pow_pos k
  rcases h with ⟨_, rfl⟩ | ⟨_, h1, _⟩
  · exact Nat.mul_ne_zero (by omega) (by omega)
  · omega

theorem MarkOf.endR {c : Nat} {ex : Prop} {k l N M : Nat} (h : MarkOf c ex k N) (g : MarkOf c ex l M) (hc : 4503599627370496 ≤ c) (s : Bool) (e f way : Int) (he : e + k = f + l) : endR s N e way = endR s M f way := by
  rcases h with ⟨x, rfl⟩ | ⟨x, h1, h2⟩
  · rcases g with ⟨_, rfl⟩ | ⟨y, _⟩
    · rw [endR_shift s (by omega), endR_shift s (by omega), he]
    · exact absurd x y
  · rcases g with ⟨y, _⟩ | ⟨_, g1, g2⟩
    · exact absurd y x
    · rw [sticky_end s hc h1 h2, sticky_end s hc g1 g2, he]

theorem MarkOf.posV {c : Nat} {ex : Prop} {k l N M : Nat} (h : MarkOf c ex k N) (g : MarkOf c ex l M) (hc : 4503599627370496 ≤ c) (s : Bool) (e f way : Int) (he : e + k = f + l) : posV (s, N, e) way = posV (s, M, f) way := by
  unfold Go.Proofs.YtonhpkigoplmaaaGreatDoor.posV
  rw [if_neg (h.ne hc), if_neg (g.ne hc)]
  simp only
  rw [h.endR g hc s e f way he]

theorem MarkOf.ends {c : Nat} {ex : Prop} {k l N M : Nat} (h : MarkOf c ex k N) (g : MarkOf c ex l M) (hc : 4503599627370496 ≤ c) {s : Bool} {e f : Int} {d u : Nat} (he : e + k = f + l) (hE : Ends (s, N, e) d u) : Ends (s, M, f) d u := by
  unfold Ends at *
  rw [← h.posV g hc s e f (-1) he, ← h.posV g hc s e f 1 he]
  exact hE

/-- The nearest float of a number of more than 53 bits is even. -/
theorem nearM_even {n : Nat} (h : 54 ≤ bl n) : nearM n % 2 = 0 := by
  unfold nearM
  rw [if_neg (by omega), show bl n - 53 = (bl n - 54) + 1 by omega, Nat.pow_succ, ← Nat.mul_assoc]
  omega

/-- The sign of an exact value against the nearest float, by the sign of the marked number against it. A: the exact value times B; N1 = 2 * c, or 2 * c + 1. -/
theorem mark_sign {A B c M N1 : Nat} (hB : 0 < B) (hM : M % 2 = 0) (h : (A = 2 * c * B ∧ N1 = 2 * c) ∨ (2 * c * B < A ∧ A < (2 * c + 2) * B ∧ N1 = 2 * c + 1)) : (N1 < M ↔ A < M * B) ∧ (N1 = M ↔ A = M * B) := by
  rcases h with ⟨rfl, rfl⟩ | ⟨h1, h2, rfl⟩
  · constructor
    · exact (Nat.mul_lt_mul_right hB).symm
    · exact (Nat.mul_right_cancel_iff hB).symm
  · rcases (show M ≤ 2 * c ∨ 2 * c + 2 ≤ M by omega) with h | h
    · have := Nat.mul_le_mul_right B h
      constructor
      · constructor <;> intro _ <;> omega
      · constructor <;> intro _ <;> omega
    · have := Nat.mul_le_mul_right B h
      constructor
      · constructor <;> intro _ <;> omega
      · constructor <;> intro _ <;> omega

/-- A quotient at two finenesses. -/
theorem quo_mark {m n c k : Nat} (hn : 0 < n) (hc : c = m / n) : MarkOf c (m % n = 0) (k + 1) (2 * (m * 2 ^ k / n) + if m * 2 ^ k % n = 0 then 0 else 1) := by
  have hp := Nat.two_pow_pos k
  have hd := Nat.div_add_mod m n
  have hl := Nat.mod_lt m hn
  have hd2 := Nat.div_add_mod (m * 2 ^ k) n
  have hl2 := Nat.mod_lt (m * 2 ^ k) hn
  rw [← hc] at hd
  rw [MarkOf, Nat.pow_succ]
  generalize 2 ^ k = g at *
  by_cases h0 : m % n = 0
  · left
    refine ⟨h0, ?_⟩
    rw [h0, Nat.add_zero] at hd
    have e : m * g = n * (c * g) := by rw [← hd, Nat.mul_assoc]
    rw [e, Nat.mul_mod_right, if_pos rfl, Nat.mul_div_cancel_left _ hn, Nat.add_zero, ← Nat.mul_assoc c, Nat.mul_comm]
  · right
    refine ⟨h0, ?_⟩
    have a1 : n * (c * g) < m * g := by
      rw [← Nat.mul_assoc]
      exact Nat.mul_lt_mul_of_pos_right (by omega) hp
    have a2 : m * g < n * ((c + 1) * g) := by
      rw [← Nat.mul_assoc]
      exact Nat.mul_lt_mul_of_pos_right (by rw [Nat.mul_add]; omega) hp
    generalize m * g / n = Q at *
    generalize m * g % n = r at *
    have b1 : c * g ≤ Q := by
      have : n * (c * g) < n * (Q + 1) := by rw [Nat.mul_add]; omega
      have := Nat.lt_of_mul_lt_mul_left this
      omega
    have b2 : Q < (c + 1) * g := by
      have : n * Q < n * ((c + 1) * g) := by omega
      exact Nat.lt_of_mul_lt_mul_left this
    have e1 : c * (g * 2) = 2 * (c * g) := by rw [← Nat.mul_assoc, Nat.mul_comm]
    have e2 : (c + 1) * (g * 2) = 2 * ((c + 1) * g) := by rw [← Nat.mul_assoc, Nat.mul_comm]
    rw [e1, e2]
    by_cases hr : r = 0
    · rw [if_pos hr]
      have : c * g ≠ Q := by
        rintro rfl
        omega
      omega
    · rw [if_neg hr]; omega
end Go.Proofs.YtonhpkigoplmaaaGreatDoor
namespace Go.Proofs.YtonhpkigoplmaaaGreatDoor
open Go.RowKit Go.Extern Ieee

/-- What encloseref.marked gives. -/
def markN (s : Bool) (q : Nat) (e : Int) (whole : Bool) : Bool × Nat × Int := (s && decide (2 * q + (if whole then 0 else 1) ≠ 0), 2 * q + (if whole then 0 else 1), e - 1)

/-- What encloseref.quotient gives. -/
def quoN (x y : Bool × Nat × Int) : Bool × Nat × Int :=
  markN (x.1 != y.1) (x.2.1 * 2 ^ (60 + bl y.2.1) / y.2.1) (x.2.2 - (60 + bl y.2.1 : Nat) - y.2.2) (decide (x.2.1 * 2 ^ (60 + bl y.2.1) % y.2.1 = 0))

theorem order_negW {q : Nat} {o : Ordering} (hq : q < 18446744073709551616) (hn : q % 9223372036854775808 ≤ 9218868437227405312) (h : FloatKind.f64.format.order q 0 = some o) : FloatKind.f64.format.order (negW q) 0 = some o.swap := by
  have hz : (0 : Nat) = wd false 0 := rfl
  have e : ∀ x : Int, compare (-x) 0 = (compare x 0).swap := by
    intro x
    rcases (show x < 0 ∨ x = 0 ∨ 0 < x by omega) with h | h | h
    · rw [cmp_lt' h, cmp_gt' (show (0 : Int) < -x by omega)]; rfl
    · rw [cmp_eq' h, cmp_eq' (show -x = 0 by omega)]; rfl
    · rw [cmp_gt' h, cmp_lt' (show -x < (0 : Int) by omega)]; rfl
  change double.order q 0 = some o at h
  show double.order (negW q) 0 = _
  rw [← wd_self hq] at h ⊢
  rw [hz] at h ⊢
  rw [negW_wd (by omega), order_wd hn (by omega)]
  rw [order_wd hn (by omega)] at h
  cases h
  have e1 : sg false 0 = 0 := rfl
  rw [e1, ← e]
  congr 2
  unfold sg
  cases decide (9223372036854775808 ≤ q) <;> simp

theorem nearest_lt (s : Bool) (n : Nat) (e : Int) : double.nearest s n e < 18446744073709551616 ∧ double.nearest s n e % 9223372036854775808 ≤ 9218868437227405312 := by
  have key : ∀ R, R ≤ 9218868437227405312 → wd s R < 18446744073709551616 ∧ wd s R % 9223372036854775808 ≤ 9218868437227405312 := by
    intro R h
    have : wd s R % 9223372036854775808 = R := by unfold wd; split <;> omega
    exact ⟨wd_lt (by omega), by omega⟩
  by_cases h0 : n = 0
  · subst h0
    have : double.nearest s 0 e = wd s 0 := by cases s <;> rfl
    rw [this]; exact key 0 (by omega)
  · obtain ⟨R, h1, h2, _⟩ := nearest_any s e h0
    rw [h1]; exact key R h2

theorem sum_write3 (s t : Bool) (m n : Nat) (i j : Int) : ∃ q o, (Datum.sum (.number s m i) (.number t n j)).map double.write = some q ∧ FloatKind.f64.format.order q 0 = some o ∧ q < 18446744073709551616 ∧ q % 9223372036854775808 ≤ 9218868437227405312 := by
  obtain ⟨o, ho⟩ := order_write (if signed s m (i - min i j).toNat + signed t n (j - min i j).toNat = 0 then s && t else decide (signed s m (i - min i j).toNat + signed t n (j - min i j).toNat < 0)) (signed s m (i - min i j).toNat + signed t n (j - min i j).toNat).natAbs (min i j)
  obtain ⟨h1, h2⟩ := nearest_lt (if signed s m (i - min i j).toNat + signed t n (j - min i j).toNat = 0 then s && t else decide (signed s m (i - min i j).toNat + signed t n (j - min i j).toNat < 0)) (signed s m (i - min i j).toNat + signed t n (j - min i j).toNat).natAbs (min i j)
  exact ⟨_, o, rfl, ho, h1, h2⟩

theorem sum_write2 (s t : Bool) (m n : Nat) (i j : Int) (b : Bool) : ∃ q o, (Datum.sum (.number s m i) (.number t n j)).map double.write = some q ∧ FloatKind.f64.format.order (if b then negW q else q) 0 = some o := by
  obtain ⟨q, o, h0, ho, h1, h2⟩ := sum_write3 s t m n i j
  cases b
  · refine ⟨q, o, h0, ?_⟩
    rw [if_neg Bool.false_ne_true]; exact ho
  · refine ⟨q, o.swap, h0, ?_⟩
    rw [if_pos rfl]; exact order_negW h1 h2 ho

/-- The sign of a number. -/
def sgnO (z : Int) : Ordering := if z = 0 then .eq else if z < 0 then .lt else .gt

theorem sgnO_sg {s : Bool} {x y : Int} (h1 : x < 0 ↔ y < 0) (h2 : x = 0 ↔ y = 0) : sgnO (if s then -x else x) = sgnO (if s then -y else y) := by
  unfold sgnO
  cases s
  · simp only [Bool.false_eq_true, if_false]
    by_cases hx : x = 0
    · rw [if_pos hx, if_pos (h2.1 hx)]
    · rw [if_neg hx, if_neg (fun h => hx (h2.2 h))]
      by_cases hl : x < 0
      · rw [if_pos hl, if_pos (h1.1 hl)]
      · rw [if_neg hl, if_neg (fun h => hl (h1.2 h))]
  · simp only [if_true]
    by_cases hx : x = 0
    · have := h2.1 hx
      rw [if_pos (show -x = 0 by omega), if_pos (show -y = 0 by omega)]
    · have hy : ¬ y = 0 := fun h => hx (h2.2 h)
      rw [if_neg (show ¬ -x = 0 by omega), if_neg (show ¬ -y = 0 by omega)]
      by_cases hl : x < 0
      · have := h1.1 hl
        rw [if_neg (show ¬ -x < 0 by omega), if_neg (show ¬ -y < 0 by omega)]
      · have : ¬ y < 0 := fun h => hl (h1.2 h)
        rw [if_pos (show -x < 0 by omega), if_pos (show -y < 0 by omega)]

theorem sgnO_swap (x : Int) : (sgnO x).swap = sgnO (-x) := by
  unfold sgnO
  rcases (show x < 0 ∨ x = 0 ∨ 0 < x by omega) with h | h | h
  · rw [if_neg (by omega), if_pos h, if_neg (by omega), if_neg (by omega)]; rfl
  · rw [if_pos h, if_pos (by omega)]; rfl
  · rw [if_neg (by omega), if_neg (by omega), if_neg (by omega), if_pos (by omega)]; rfl
end Go.Proofs.YtonhpkigoplmaaaGreatDoor
namespace Go.Proofs.YtonhpkigoplmaaaGreatDoor
open Go.RowKit Go.Extern Ieee

/-- The quotient of two floats' numbers, to 55 bits and a mark. -/
def q1 (m n : Nat) : Nat := 2 * (m * 2 ^ 54 / n) + if m * 2 ^ 54 % n = 0 then 0 else 1

theorem q1_bounds {m n : Nat} (h1 : 4503599627370496 ≤ m) (h2 : m < 9007199254740992) (h3 : 4503599627370496 ≤ n) (h4 : n < 9007199254740992) :
    9007199254740992 ≤ m * 2 ^ 54 / n ∧ m * 2 ^ 54 / n < 36028797018963968 := by
  have p54 : (2 : Nat) ^ 54 = 18014398509481984 := by decide
  rw [p54]
  constructor
  · rw [Nat.le_div_iff_mul_le (by omega)]; omega
  · rw [Nat.div_lt_iff_lt_mul (by omega)]; omega

theorem q1_bl {m n : Nat} (h1 : 4503599627370496 ≤ m) (h2 : m < 9007199254740992) (h3 : 4503599627370496 ≤ n) (h4 : n < 9007199254740992) : 55 ≤ bl (q1 m n) ∧ bl (q1 m n) ≤ 56 := by
  obtain ⟨c1, c2⟩ := q1_bounds h1 h2 h3 h4
  have p54 : (2 : Nat) ^ 54 = 18014398509481984 := by decide
  have p56 : (2 : Nat) ^ 56 = 72057594037927936 := by decide
  constructor
  · apply bl_gt
    rw [p54]
    unfold q1
    omega
  · apply bl_le
    rw [p56]
    unfold q1
    split <;> omega

theorem div_plain {x y : Nat} {sx sy : Bool} {mx my : Nat} {ex ey : Int} (rx : double.read x = .number sx mx ex) (ry : double.read y = .number sy my ey) (x1 : 4503599627370496 ≤ mx) (x2 : mx < 9007199254740992) (y1 : 4503599627370496 ≤ my) (y2 : my < 9007199254740992) :
    double.div x y = some (double.nearest (sx ^^ sy) (q1 mx my) (ex - ey - 55)) := by
  have l1 := bl_log2 (n := mx) (by omega)
  have l2 := bl_log2 (n := my) (by omega)
  rw [bl53 x1 x2] at l1
  rw [bl53 y1 y2] at l2
  have hfb : double.fractionBits = 52 := rfl
  unfold Format.div
  rw [rx, ry]
  simp only [Datum.quotient, hfb]
  rw [if_neg (by omega), show 52 + 2 + my.log2 - mx.log2 = 54 by omega, Nat.shiftLeft_eq]
  simp only [Option.map_some, Format.write]
  have e1 : ex - ey - ((54 : Nat) : Int) - 1 = ex - ey - 55 := by omega
  have e2 : 2 * (mx * 2 ^ 54 / my) + (mx * 2 ^ 54 % my != 0).toNat = q1 mx my := by
    unfold q1
    by_cases h : mx * 2 ^ 54 % my = 0
    · rw [h, if_pos rfl]; rfl
    · rw [if_neg h, (bne_iff_ne).2 h]; rfl
  rw [e1, e2]

/-- What is left of a quotient, times the divisor: its sign. -/
theorem quo_sign {m n : Nat} (h1 : 4503599627370496 ≤ m) (h2 : m < 9007199254740992) (h3 : 4503599627370496 ≤ n) (h4 : n < 9007199254740992) :
    (q1 m n < nearM (q1 m n) ↔ m * 2 ^ 55 < nearM (q1 m n) * n) ∧ (q1 m n = nearM (q1 m n) ↔ m * 2 ^ 55 = nearM (q1 m n) * n) := by
  have hd := Nat.div_add_mod (m * 2 ^ 54) n
  have hl := Nat.mod_lt (m * 2 ^ 54) (show 0 < n by omega)
  have e55 : m * 2 ^ 55 = 2 * (m * 2 ^ 54) := by rw [Nat.pow_succ 2 54, ← Nat.mul_assoc, Nat.mul_comm]
  refine mark_sign (c := m * 2 ^ 54 / n) (by omega) (nearM_even (by have := q1_bl h1 h2 h3 h4; omega)) ?_
  rw [e55]
  have a1 : 2 * (m * 2 ^ 54 / n) * n = 2 * (n * (m * 2 ^ 54 / n)) := by rw [Nat.mul_assoc, Nat.mul_comm n]
  have a2 : (2 * (m * 2 ^ 54 / n) + 2) * n = 2 * (n * (m * 2 ^ 54 / n)) + 2 * n := by rw [Nat.add_mul, a1]
  rw [a1, a2]
  unfold q1
  by_cases h0 : m * 2 ^ 54 % n = 0
  · left
    rw [if_pos h0]
    exact ⟨by omega, by omega⟩
  · right
    rw [if_neg h0]
    exact ⟨by omega, by omega, rfl⟩

theorem sg_sub (s : Bool) (a b : Nat) : sg s a - sg s b = if s then -((a : Int) - b) else (a : Int) - b := by
  unfold sg
  cases s
  · rfl
  · simp only [if_true]; omega

theorem fd_lt (e z : Int) : fd e z < 18446744073709551616 ∧ fd e z % 9223372036854775808 ≤ 9218868437227405312 := nearest_lt _ _ _

theorem quo_fin {sx sy : Bool} {f : Nat} {A : Int} (h1 : f < 18446744073709551616) (h2 : f % 9223372036854775808 ≤ 9218868437227405312) (h : FloatKind.f64.format.order f 0 = some (sgnO (if sx then -A else A))) :
    FloatKind.f64.format.order (if sy then negW f else f) 0 = some (sgnO (if (sx ^^ sy) then -A else A)) := by
  cases sy
  · rw [if_neg Bool.false_ne_true, Bool.xor_false]
    exact h
  · rw [if_pos rfl, Bool.xor_true]
    have := order_negW h1 h2 h
    rw [sgnO_swap] at this
    rw [this]
    cases sx
    · rw [if_neg Bool.false_ne_true, Bool.not_false, if_pos rfl]
    · rw [if_pos rfl, Int.neg_neg, Bool.not_true, if_neg Bool.false_ne_true]

theorem fma_num {a b c : Nat} {s t r : Bool} {m n k : Nat} {i j l : Int} (h1 : double.read a = .number s m i) (h2 : double.read b = .number t n j) (h3 : double.read c = .number r k l) :
    double.fma a b c = (Datum.sum (.number (s ^^ t) (m * n) (i + j)) (.number r k l)).map double.write := by
  unfold Format.fma
  rw [h1, h2, h3]; rfl

/-- The remainder in the middle of the range. -/
theorem quo_rest {x y : Nat} {sx sy : Bool} {mx my : Nat} {ex ey : Int} (rx : double.read x = .number sx mx ex) (ry : double.read y = .number sy my ey) (x1 : 4503599627370496 ≤ mx) (x2 : mx < 9007199254740992) (y1 : 4503599627370496 ≤ my) (y2 : my < 9007199254740992) (x3 : -952 ≤ ex) (x4 : ex ≤ 848) (he1 : -1022 ≤ ex - ey - 55) (he2 : ex - ey - 55 ≤ 940) :
    ∃ q, double.fma (negW (double.nearest (sx ^^ sy) (q1 mx my) (ex - ey - 55))) y x = some q ∧ FloatKind.f64.format.order (if sy then negW q else q) 0 = some (side (sx ^^ sy) (q1 mx my)) := by
  have hbl := q1_bl x1 x2 y1 y2
  have hn : q1 mx my ≠ 0 := by
    intro h
    rw [h] at hbl
    have : bl 0 = 0 := rfl
    omega
  obtain ⟨a1, a2, a3⟩ := sg_sign (s := (sx ^^ sy)) hn
  have hN0 : nearM (q1 mx my) ≠ 0 := (nearM_facts hn).1
  have hNb : bl (nearM (q1 mx my)) ≤ bl (q1 mx my) + 1 := (nearM_facts hn).2.2.2
  have habs := nearI_abs (sg (sx ^^ sy) (q1 mx my))
  rw [a2] at habs
  have hI : nearI (sg (sx ^^ sy) (q1 mx my)) = sg (sx ^^ sy) (nearM (q1 mx my)) := by
    unfold nearI
    rw [a1, a2]
  obtain ⟨b1, b2, b3⟩ := sg_sign (s := (sx ^^ sy)) hN0
  have hfd := nearest_fd (s := (sx ^^ sy)) (ex - ey - 55) hn
  have hnf := nearI_fd (e := ex - ey - 55) (z := sg (sx ^^ sy) (q1 mx my)) a3 he1 (by rw [a2]; omega)
  rw [hI] at hnf
  rw [hfd, ← hnf]
  have hrep : Rep (sg (sx ^^ sy) (nearM (q1 mx my))) := by rw [← hI]; exact nearI_rep _
  obtain ⟨t, m, p, h1, h2, h3, h4⟩ := read_fd (e := ex - ey - 55) (z := sg (sx ^^ sy) (nearM (q1 mx my))) ⟨he1, by rw [b2]; omega⟩ hrep
  have ht : t = (sx ^^ sy) := by rw [h4 b3, b1]
  have hlt : fd (ex - ey - 55) (sg (sx ^^ sy) (nearM (q1 mx my))) < 18446744073709551616 := (fd_lt _ _).1
  have hM1 : Means (ex - 55) (-sg (sx ^^ sy) (nearM (q1 mx my)) * sg sy my) ((!t) ^^ sy) (m * my) (p + ey) := by
    have := mul_means h2.opp (show Means ey (sg sy my) sy my ey from fun c _ _ => (sg_mul _ _ _).symm)
    rwa [show ex - ey - 55 + ey = ex - 55 by omega] at this
  have hM2 : Means (ex - 55) (sg sx mx * ((2 ^ 55 : Nat) : Int)) sx mx ex := means_low (show Means ex (sg sx mx) sx mx ex from fun c _ _ => (sg_mul _ _ _).symm) 55
  have htot : -sg (sx ^^ sy) (nearM (q1 mx my)) * sg sy my + sg sx mx * ((2 ^ 55 : Nat) : Int) = if sx then -(((mx * 2 ^ 55 : Nat) : Int) - ((nearM (q1 mx my) * my : Nat) : Int)) else ((mx * 2 ^ 55 : Nat) : Int) - ((nearM (q1 mx my) * my : Nat) : Int) := by
    rw [Int.neg_mul, ← sg_mul2, sg_mul, ← sg_sub]
    have : ((sx ^^ sy) ^^ sy) = sx := by cases sx <;> cases sy <;> rfl
    rw [this]
    omega
  have hsz : (-sg (sx ^^ sy) (nearM (q1 mx my)) * sg sy my + sg sx mx * ((2 ^ 55 : Nat) : Int)).natAbs < 2 ^ 111 := by
    rw [htot]
    have u1 : mx * 2 ^ 55 < 2 ^ 110 := by
      have : mx * 2 ^ 55 < 2 ^ 53 * 2 ^ 55 := Nat.mul_lt_mul_of_pos_right (by rw [p53]; exact x2) (Nat.two_pow_pos _)
      rw [← Nat.pow_add] at this
      exact Nat.lt_of_lt_of_le this (pow_mono (by omega))
    have u2 : nearM (q1 mx my) * my < 2 ^ 110 := by
      have v1 : nearM (q1 mx my) < 2 ^ 57 := Nat.lt_of_lt_of_le (bl_bounds (Nat.pos_of_ne_zero hN0)).2.1 (pow_mono (by omega))
      have : nearM (q1 mx my) * my < 2 ^ 57 * 2 ^ 53 := Nat.mul_lt_mul'' v1 (by rw [p53]; exact y2)
      rwa [← Nat.pow_add] at this
    have u3 : (2 : Nat) ^ 111 = 2 * 2 ^ 110 := by rw [Nat.pow_succ 2 110, Nat.mul_comm]
    generalize (2 : Nat) ^ 110 = g at *
    generalize mx * 2 ^ 55 = a at *
    generalize nearM (q1 mx my) * my = b at *
    split <;> omega
  have hbt := bl_le hsz
  have hF : Fits (ex - 55) (-sg (sx ^^ sy) (nearM (q1 mx my)) * sg sy my + sg sx mx * ((2 ^ 55 : Nat) : Int)) := ⟨by omega, by omega⟩
  have hsum := sum_means hM1 hM2 hF (by
    intro _
    rw [ht]
    cases sx <;> cases sy <;> rfl)
  have hord : FloatKind.f64.format.order _ 0 = some (sgnO _) := ord_fd hF (by omega)
  have hq2 := fd_lt (ex - 55) (-sg (sx ^^ sy) (nearM (q1 mx my)) * sg sy my + sg sx mx * ((2 ^ 55 : Nat) : Int))
  clear hF hbt hsz
  generalize -sg (sx ^^ sy) (nearM (q1 mx my)) * sg sy my + sg sx mx * ((2 ^ 55 : Nat) : Int) = T at *
  refine ⟨fd (ex - 55) T, ?_, ?_⟩
  · have hr := read_negW hlt
    rw [h1] at hr
    rw [fma_num hr ry rx]
    exact hsum
  · have hside := near_side (sg (sx ^^ sy) (q1 mx my))
    rw [a1, a2, hI, sg_sub] at hside
    rw [← hside]
    obtain ⟨s1, s2⟩ := quo_sign x1 x2 y1 y2
    refine quo_fin hq2.1 hq2.2 ?_
    rw [hord, htot]
    congr 1
    apply sgnO_sg
    · omega
    · omega
end Go.Proofs.YtonhpkigoplmaaaGreatDoor
namespace Go.Proofs.YtonhpkigoplmaaaGreatDoor
open Go.RowKit Go.Extern Ieee

theorem markN_ne {s : Bool} {q : Nat} {e : Int} {b : Bool} (h : 2 * q + (if b then 0 else 1) ≠ 0) : markN s q e b = (s, 2 * q + (if b then 0 else 1), e - 1) := by
  unfold markN
  rw [decide_eq_true h, Bool.and_true]

theorem ite_decide (p : Prop) [Decidable p] : (if (decide p) = true then (0 : Nat) else 1) = if p then 0 else 1 := by
  by_cases h : p
  · rw [decide_eq_true h, if_pos rfl, if_pos h]
  · rw [decide_eq_false h, if_neg Bool.false_ne_true, if_neg h]

/-- The document's quotient is the same number, marked farther behind. -/
theorem quoN_mark {sx sy : Bool} {mx my : Nat} {ex ey : Int} (x1 : 4503599627370496 ≤ mx) (x2 : mx < 9007199254740992) (y1 : 4503599627370496 ≤ my) (y2 : my < 9007199254740992) :
    ∃ N, quoN (sx, mx, ex) (sy, my, ey) = ((sx ^^ sy), N, ex - ey - 55 - 59) ∧ MarkOf (mx * 2 ^ 54 / my) (mx * 2 ^ 54 % my = 0) 1 (q1 mx my) ∧ MarkOf (mx * 2 ^ 54 / my) (mx * 2 ^ 54 % my = 0) 60 N := by
  have h1 := quo_mark (m := mx * 2 ^ 54) (n := my) (k := 0) (by omega) rfl
  have h2 := quo_mark (m := mx * 2 ^ 54) (n := my) (k := 59) (by omega) rfl
  rw [Nat.pow_zero, Nat.mul_one] at h1
  rw [Nat.mul_assoc, ← Nat.pow_add] at h2
  obtain ⟨c1, c2⟩ := q1_bounds x1 x2 y1 y2
  have hne := h2.ne (by omega)
  refine ⟨_, ?_, h1, h2⟩
  unfold quoN
  simp only
  rw [bl53 y1 y2]
  have hne' : 2 * (mx * 2 ^ (60 + 53) / my) + (if (decide (mx * 2 ^ (60 + 53) % my = 0)) = true then 0 else 1) ≠ 0 := by
    rw [ite_decide]; exact hne
  rw [markN_ne hne', ite_decide]
  congr 2
  omega

theorem quo_plain {x y : Nat} {p q : Bool × Nat × Int} (hx : x < 18446744073709551616) (hy : y < 18446744073709551616) (px : plainN x = some p) (py : plainN y = some q) (hq0 : q.2.1 ≠ 0) :
    ∃ d u, Ends (quoN p q) d u ∧ Gives 94 #[.float .f64 x, .float .f64 y] d u := by
  by_cases hp0 : p.2.1 = 0
  · have ho := plain_zero_order hx px hp0
    refine ⟨0, 0, ends_zero ?_, quotientF_zero x y ho⟩
    unfold quoN markN
    simp only
    rw [hp0, Nat.zero_mul, Nat.zero_div, Nat.zero_mod]; rfl
  · obtain ⟨sx, mx, ex⟩ := p
    obtain ⟨sy, my, ey⟩ := q
    obtain ⟨rx, ox, x1, x2, x3, x4⟩ := plain_parts hx px hp0
    obtain ⟨ry, oy, y1, y2, y3, y4⟩ := plain_parts hy py hq0
    simp only at *
    obtain ⟨N, hN, k1, k2⟩ := quoN_mark (sx := sx) (sy := sy) (ex := ex) (ey := ey) x1 x2 y1 y2
    have hc : 4503599627370496 ≤ mx * 2 ^ 54 / my := by have := (q1_bounds x1 x2 y1 y2).1; omega
    have hn : q1 mx my ≠ 0 := k1.ne hc
    have hb := q1_bl x1 x2 y1 y2
    rw [hN]
    suffices h : ∃ d u, Ends ((sx ^^ sy), q1 mx my, ex - ey - 55) d u ∧ Gives 94 #[.float .f64 x, .float .f64 y] d u by
      obtain ⟨d, u, hE, hG⟩ := h
      exact ⟨d, u, k1.ends k2 hc (by omega) hE, hG⟩
    have hdiv := div_plain rx ry x1 x2 y1 y2
    have hrest := quo_rest rx ry x1 x2 y1 y2 x3 x4
    have hlost := quotientF_lost x y sx sy
    have hmain := quotientF_main x y sx sy
    obtain ⟨R, hR, hR2, hmid, htin, hhug⟩ := nearest_any (sx ^^ sy) (ex - ey - 55) hn
    rw [hR] at hdiv hrest
    have rb := rung_bounds (ex - ey - 55) hn
    have hup : -1021 ≤ ex - ey - 55 + bl (q1 mx my) → ex - ey - 55 + bl (q1 mx my) ≤ 1023 → rung (q1 mx my) (ex - ey - 55) ≤ R ∧ (R : Int) ≤ rung (q1 mx my) (ex - ey - 55) + 1 := by
      intro h1 h2
      have := hmid h1 h2
      split at this <;> omega
    have hneg : double.read (negW (wd (sx ^^ sy) R)) = (double.read (wd (sx ^^ sy) R)).opposite := read_negW (wd_lt (by omega))
    have hany : R < 9218868437227405312 → ∃ q o, double.fma (negW (wd (sx ^^ sy) R)) y x = some q ∧ FloatKind.f64.format.order (if sy then negW q else q) 0 = some o := by
      intro hlt
      obtain ⟨m', i', r1, _, _⟩ := read_vr (s := (sx ^^ sy)) (r := R) hlt
      rw [r1] at hneg
      obtain ⟨q, o, q1, q2⟩ := sum_write2 ((!(sx ^^ sy)) ^^ sy) sx (m' * my) mx (i' + ey) ex sy
      exact ⟨q, o, (fma_num hneg ry rx).trans q1, q2⟩
    by_cases hl : R < 103582791429521408
    · exact ⟨_, _, ends_tiny _ hn (by omega) (FR_tiny _ (by omega) (by omega)) (FR_tiny _ (by omega) (by omega)), hlost _ R ox oy hdiv hl⟩
    · by_cases he1 : ex - ey - 55 < -1022
      · obtain ⟨q, o, q1, q2⟩ := hany (by omega)
        obtain ⟨d, u, hd, hu, hG⟩ := around_tiny (sx ^^ sy) R _ o (by omega) (by omega) q2
        exact ⟨d, u, ends_tiny _ hn (by omega) hd hu, hmain _ R q d u ox oy hdiv hl hR2 q1 hG⟩
      · by_cases he2 : 940 < ex - ey - 55
        · by_cases hinf : R = 9218868437227405312
          · subst hinf
            rw [read_wd_inf] at hneg
            have hq : double.fma (negW (wd (sx ^^ sy) 9218868437227405312)) y x = some (wd ((!(sx ^^ sy)) ^^ sy) 9218868437227405312) := by
              unfold Format.fma
              rw [hneg, ry, rx]
              simp only [Datum.opposite, Datum.product]
              rw [if_neg (show ¬ my = 0 by omega)]
              cases sx <;> cases sy <;> rfl
            have ho : FloatKind.f64.format.order (if sy then negW (wd ((!(sx ^^ sy)) ^^ sy) 9218868437227405312) else wd ((!(sx ^^ sy)) ^^ sy) 9218868437227405312) 0 = some (if (sx ^^ sy) then .gt else .lt) := by
              rw [negW_wd (by omega)]
              cases sx <;> cases sy <;> rfl
            obtain ⟨d, u, hd, hu, hG⟩ := around_huge (sx ^^ sy) 9218868437227405312 _ _ (by omega) (by omega) ho (fun _ => rfl)
            exact ⟨d, u, ends_huge _ hn (by omega) hd hu, hmain _ _ _ d u ox oy hdiv hl hR2 hq hG⟩
          · obtain ⟨q, o, q1, q2⟩ := hany (by omega)
            obtain ⟨d, u, hd, hu, hG⟩ := around_huge (sx ^^ sy) R _ o (by omega) (by omega) q2 (fun h => absurd h hinf)
            exact ⟨d, u, ends_huge _ hn (by omega) hd hu, hmain _ R q d u ox oy hdiv hl hR2 q1 hG⟩
        · obtain ⟨q, q1', q2⟩ := hrest (by omega) (by omega)
          have hA : Gives 141 #[.float .f64 (double.nearest (sx ^^ sy) (q1 mx my) (ex - ey - 55)), .float .f64 (if sy then negW q else q)] _ _ := fun w => around_round (sx ^^ sy) (q1 mx my) (ex - ey - 55) _ w hn (by omega) (by omega) q2
          rw [hR] at hA
          have e1 := endR_bounds (sx ^^ sy) (n := q1 mx my) (ex - ey - 55) (-1)
          have e2 := endR_bounds (sx ^^ sy) (n := q1 mx my) (ex - ey - 55) 1
          exact ⟨_, _, ⟨FR_end _ (-1) hn (by omega) (by omega), FR_end _ 1 hn (by omega) (by omega)⟩, hmain _ R q _ _ ox oy hdiv hl hR2 q1' hA⟩
end Go.Proofs.YtonhpkigoplmaaaGreatDoor
namespace Go.Proofs.YtonhpkigoplmaaaGreatDoor
open Go.RowKit Go.Extern Ieee

theorem sq_lt {a b : Nat} : a * a < b * b ↔ a < b := Nat.mul_self_lt_mul_self_iff
theorem sq_le {a b : Nat} : a * a ≤ b * b ↔ a ≤ b := Nat.mul_self_le_mul_self_iff

theorem rootFrom_spec (n : Nat) : ∀ (todo root : Nat), root * root ≤ n → n < (root + 2 ^ todo) * (root + 2 ^ todo) → Datum.rootFrom n todo root * Datum.rootFrom n todo root ≤ n ∧ n < (Datum.rootFrom n todo root + 1) * (Datum.rootFrom n todo root + 1)
  | 0, root, h1, h2 => by
    rw [Nat.pow_zero] at h2
    exact ⟨h1, h2⟩
  | todo + 1, root, h1, h2 => by
    unfold Datum.rootFrom
    simp only [Nat.one_shiftLeft]
    by_cases h : (root + 2 ^ todo) * (root + 2 ^ todo) ≤ n
    · rw [if_pos h]
      refine rootFrom_spec n todo _ h ?_
      rwa [Nat.add_assoc, ← Nat.two_mul, Nat.mul_comm 2, ← Nat.pow_succ]
    · rw [if_neg h]
      exact rootFrom_spec n todo _ h1 (by omega)

/-- The whole root. -/
def isq (n : Nat) : Nat := Datum.rootFrom n (n.log2 / 2 + 1) 0

theorem isq_spec (n : Nat) : isq n * isq n ≤ n ∧ n < (isq n + 1) * (isq n + 1) := by
  apply rootFrom_spec
  · omega
  · rw [Nat.zero_add, ← Nat.pow_add]
    by_cases h0 : n = 0
    · subst h0; exact Nat.two_pow_pos _
    · have h1 := (bl_bounds (Nat.pos_of_ne_zero h0)).2.1
      rw [bl_log2 h0] at h1
      exact Nat.lt_of_lt_of_le h1 (pow_mono (by omega))

theorem isq_of {n c : Nat} (h1 : c * c ≤ n) (h2 : n < (c + 1) * (c + 1)) : isq n = c := by
  obtain ⟨a1, a2⟩ := isq_spec n
  have b1 := sq_lt.1 (Nat.lt_of_le_of_lt a1 h2)
  have b2 := sq_lt.1 (Nat.lt_of_le_of_lt h1 a2)
  omega

theorem sq_shift (c g : Nat) : c * g * (c * g) = c * c * (g * g) := by
  rw [Nat.mul_assoc, Nat.mul_assoc, Nat.mul_left_comm g]

theorem root_mark (n k : Nat) : MarkOf (isq n) (isq n * isq n = n) (k + 1) (2 * isq (n * 2 ^ (k + k)) + if isq (n * 2 ^ (k + k)) * isq (n * 2 ^ (k + k)) = n * 2 ^ (k + k) then 0 else 1) := by
  obtain ⟨a1, a2⟩ := isq_spec n
  have hp := Nat.two_pow_pos k
  rw [MarkOf, Nat.pow_add, Nat.pow_succ]
  generalize 2 ^ k = g at *
  have e0 : isq n * (g * 2) = 2 * (isq n * g) := by rw [← Nat.mul_assoc, Nat.mul_comm]
  have e2 : (isq n + 1) * (g * 2) = 2 * ((isq n + 1) * g) := by rw [← Nat.mul_assoc, Nat.mul_comm]
  have hgg : 0 < g * g := Nat.mul_pos hp hp
  rw [e0, e2]
  by_cases hx : isq n * isq n = n
  · left
    refine ⟨hx, ?_⟩
    have hq : isq (n * (g * g)) = isq n * g := by
      apply isq_of
      · rw [sq_shift, hx]; exact Nat.le_refl _
      · rw [show n * (g * g) = isq n * g * (isq n * g) by rw [sq_shift, hx]]
        exact sq_lt.2 (by omega)
    rw [hq, sq_shift, hx, if_pos rfl, Nat.add_zero]
  · right
    refine ⟨hx, ?_⟩
    obtain ⟨b1, b2⟩ := isq_spec (n * (g * g))
    have c1 : isq n * g * (isq n * g) < n * (g * g) := by
      rw [sq_shift]
      exact Nat.mul_lt_mul_of_pos_right (by omega) hgg
    have c2 : n * (g * g) < (isq n + 1) * g * ((isq n + 1) * g) := by
      rw [sq_shift]
      exact Nat.mul_lt_mul_of_pos_right a2 hgg
    have d1 := sq_lt.1 (Nat.lt_trans c1 b2)
    have d2 := sq_lt.1 (Nat.lt_of_le_of_lt b1 c2)
    by_cases hr : isq (n * (g * g)) * isq (n * (g * g)) = n * (g * g)
    · rw [if_pos hr]
      have : isq n * g ≠ isq (n * (g * g)) := by
        intro h
        rw [← h] at hr
        omega
      omega
    · rw [if_neg hr]; omega

/-- By how much a number is shifted ahead of its root. -/
def rk (k : Nat) (e : Int) : Nat := if (e - k) % 2 = 0 then k else k + 1

/-- What encloseref.rooted gives. -/
def rootN (x : Bool × Nat × Int) : Bool × Nat × Int :=
  markN false (isq (x.2.1 * 2 ^ rk 130 x.2.2)) ((x.2.2 - rk 130 x.2.2) / 2) (decide (isq (x.2.1 * 2 ^ rk 130 x.2.2) * isq (x.2.1 * 2 ^ rk 130 x.2.2) = x.2.1 * 2 ^ rk 130 x.2.2))

theorem rk_even (k : Nat) (e : Int) : (e - rk k e) % 2 = 0 := by
  unfold rk; split <;> omega

theorem rk_74 (e : Int) : rk 130 e = rk 56 e + 74 := by
  unfold rk; split <;> split <;> omega

/-- The root to 55 bits and a mark. -/
def r1 (m : Nat) (e : Int) : Nat := 2 * isq (m * 2 ^ rk 56 e) + if isq (m * 2 ^ rk 56 e) * isq (m * 2 ^ rk 56 e) = m * 2 ^ rk 56 e then 0 else 1

theorem r1_bounds {m : Nat} (e : Int) (h1 : 4503599627370496 ≤ m) (h2 : m < 9007199254740992) : 18014398509481984 ≤ isq (m * 2 ^ rk 56 e) ∧ isq (m * 2 ^ rk 56 e) < 36028797018963968 := by
  obtain ⟨a1, a2⟩ := isq_spec (m * 2 ^ rk 56 e)
  have k1 : 56 ≤ rk 56 e ∧ rk 56 e ≤ 57 := by unfold rk; split <;> omega
  have l1 : 2 ^ 52 * 2 ^ 56 ≤ m * 2 ^ rk 56 e := Nat.mul_le_mul (by rw [p52]; exact h1) (pow_mono k1.1)
  have l2 : m * 2 ^ rk 56 e < 2 ^ 53 * 2 ^ 57 := Nat.lt_of_lt_of_le (Nat.mul_lt_mul_of_pos_right (by rw [p53]; exact h2) (Nat.two_pow_pos _)) (Nat.mul_le_mul_left _ (pow_mono k1.2))
  have q1 : (2 : Nat) ^ 52 * 2 ^ 56 = 18014398509481984 * 18014398509481984 := by decide
  have q2 : (2 : Nat) ^ 53 * 2 ^ 57 = 36028797018963968 * 36028797018963968 := by decide
  rw [q1] at l1
  rw [q2] at l2
  have b1 := sq_lt.1 (Nat.lt_of_le_of_lt l1 a2)
  have b2 := sq_lt.1 (Nat.lt_of_le_of_lt a1 l2)
  omega

theorem r1_bl {m : Nat} (e : Int) (h1 : 4503599627370496 ≤ m) (h2 : m < 9007199254740992) : bl (r1 m e) = 56 := by
  obtain ⟨a1, a2⟩ := r1_bounds e h1 h2
  have p55 : (2 : Nat) ^ (56 - 1) = 36028797018963968 := by decide
  have p56 : (2 : Nat) ^ 56 = 72057594037927936 := by decide
  refine bl_of ?_ ?_ (by omega)
  · rw [p55]; unfold r1; omega
  · rw [p56]; unfold r1; split <;> omega

theorem sqrt_plain {x : Nat} {mx : Nat} {ex : Int} (rx : double.read x = .number false mx ex) (x1 : 4503599627370496 ≤ mx) (x2 : mx < 9007199254740992) :
    double.sqrt x = some (double.nearest false (r1 mx ex) ((ex - rk 56 ex) / 2 - 1)) := by
  have l1 := bl_log2 (n := mx) (by omega)
  rw [bl53 x1 x2] at l1
  have hfb : double.fractionBits = 52 := rfl
  unfold Format.sqrt
  rw [rx]
  simp only [Datum.root, hfb]
  rw [if_neg (by omega), if_neg Bool.false_ne_true, show 2 * (52 + 2) - mx.log2 = 56 by omega]
  have hk : 56 + ((ex - ((56 : Nat) : Int)) % 2).toNat = rk 56 ex := by
    unfold rk; split <;> omega
  rw [hk, Nat.shiftLeft_eq]
  simp only [Option.map_some, Format.write]
  change some (double.nearest false (2 * isq (mx * 2 ^ rk 56 ex) + (isq (mx * 2 ^ rk 56 ex) * isq (mx * 2 ^ rk 56 ex) != mx * 2 ^ rk 56 ex).toNat) _) = _
  have e2 : 2 * isq (mx * 2 ^ rk 56 ex) + (isq (mx * 2 ^ rk 56 ex) * isq (mx * 2 ^ rk 56 ex) != mx * 2 ^ rk 56 ex).toNat = r1 mx ex := by
    unfold r1
    by_cases h : isq (mx * 2 ^ rk 56 ex) * isq (mx * 2 ^ rk 56 ex) = mx * 2 ^ rk 56 ex
    · rw [h, if_pos rfl, bne_self_eq_false]; rfl
    · rw [if_neg h, (bne_iff_ne).2 h]; rfl
  rw [e2]

theorem root_sign {m : Nat} (e : Int) (h1 : 4503599627370496 ≤ m) (h2 : m < 9007199254740992) :
    (r1 m e < nearM (r1 m e) ↔ m * 2 ^ (rk 56 e + 2) < nearM (r1 m e) * nearM (r1 m e)) ∧ (r1 m e = nearM (r1 m e) ↔ m * 2 ^ (rk 56 e + 2) = nearM (r1 m e) * nearM (r1 m e)) := by
  have hev := nearM_even (n := r1 m e) (by rw [r1_bl e h1 h2]; omega)
  obtain ⟨a1, a2⟩ := isq_spec (m * 2 ^ rk 56 e)
  have e4 : m * 2 ^ (rk 56 e + 2) = 4 * (m * 2 ^ rk 56 e) := by
    rw [Nat.pow_add, ← Nat.mul_assoc, Nat.mul_comm]
  rw [e4]
  have s1 : (2 * isq (m * 2 ^ rk 56 e)) * (2 * isq (m * 2 ^ rk 56 e)) = 4 * (isq (m * 2 ^ rk 56 e) * isq (m * 2 ^ rk 56 e)) := by
    rw [Nat.mul_mul_mul_comm]
  have s2 : (2 * isq (m * 2 ^ rk 56 e) + 2) * (2 * isq (m * 2 ^ rk 56 e) + 2) = 4 * ((isq (m * 2 ^ rk 56 e) + 1) * (isq (m * 2 ^ rk 56 e) + 1)) := by
    rw [show 2 * isq (m * 2 ^ rk 56 e) + 2 = 2 * (isq (m * 2 ^ rk 56 e) + 1) by omega, Nat.mul_mul_mul_comm]
  generalize hM : nearM (r1 m e) = M at *
  unfold r1
  generalize isq (m * 2 ^ rk 56 e) = c at *
  generalize m * 2 ^ rk 56 e = n at *
  by_cases hx : c * c = n
  · rw [if_pos hx, Nat.add_zero]
    rw [← hx, ← s1]
    exact ⟨sq_lt.symm, Nat.mul_self_inj.symm⟩
  · rw [if_neg hx]
    rcases (show M ≤ 2 * c ∨ 2 * c + 2 ≤ M by omega) with h | h
    · have := sq_le.2 h
      constructor <;> constructor <;> intro _ <;> omega
    · have := sq_le.2 h
      constructor <;> constructor <;> intro _ <;> omega
end Go.Proofs.YtonhpkigoplmaaaGreatDoor
namespace Go.Proofs.YtonhpkigoplmaaaGreatDoor
open Go.RowKit Go.Extern Ieee

theorem rootN_mark {mx : Nat} {ex : Int} (x1 : 4503599627370496 ≤ mx) (x2 : mx < 9007199254740992) :
    ∃ N c P, rootN (false, mx, ex) = (false, N, (ex - rk 56 ex) / 2 - 1 - 37) ∧ 4503599627370496 ≤ c ∧ MarkOf c P 1 (r1 mx ex) ∧ MarkOf c P 38 N := by
  have h1 := root_mark (mx * 2 ^ rk 56 ex) 0
  have h2 := root_mark (mx * 2 ^ rk 56 ex) 37
  rw [Nat.add_zero, Nat.pow_zero, Nat.mul_one] at h1
  rw [Nat.mul_assoc, ← Nat.pow_add, show rk 56 ex + (37 + 37) = rk 130 ex by rw [rk_74]] at h2
  have hc := r1_bounds ex x1 x2
  have hne := h2.ne (by omega)
  refine ⟨_, _, _, ?_, by omega, h1, h2⟩
  unfold rootN
  simp only
  have hne' : 2 * isq (mx * 2 ^ rk 130 ex) + (if (decide (isq (mx * 2 ^ rk 130 ex) * isq (mx * 2 ^ rk 130 ex) = mx * 2 ^ rk 130 ex)) = true then 0 else 1) ≠ 0 := by
    rw [ite_decide]; exact hne
  rw [markN_ne hne', ite_decide]
  congr 2
  have := rk_even 56 ex
  have := rk_even 130 ex
  have := rk_74 ex
  omega

/-- The remainder. -/
theorem root_rest {x : Nat} {mx : Nat} {ex : Int} (rx : double.read x = .number false mx ex) (x1 : 4503599627370496 ≤ mx) (x2 : mx < 9007199254740992) (x3 : -952 ≤ ex) (x4 : ex ≤ 848) :
    ∃ q, double.fma (negW (double.nearest false (r1 mx ex) ((ex - rk 56 ex) / 2 - 1))) (double.nearest false (r1 mx ex) ((ex - rk 56 ex) / 2 - 1)) x = some q ∧ FloatKind.f64.format.order q 0 = some (side false (r1 mx ex)) := by
  have hbl := r1_bl ex x1 x2
  have hev := rk_even 56 ex
  have k1 : 56 ≤ rk 56 ex ∧ rk 56 ex ≤ 57 := by unfold rk; split <;> omega
  have hsign := root_sign ex x1 x2
  generalize hk : rk 56 ex = k at *
  have hn : r1 mx ex ≠ 0 := by
    intro h
    rw [h] at hbl
    have : bl 0 = 0 := rfl
    omega
  have hN0 : nearM (r1 mx ex) ≠ 0 := (nearM_facts hn).1
  have hNb : bl (nearM (r1 mx ex)) ≤ bl (r1 mx ex) + 1 := (nearM_facts hn).2.2.2
  have hside := near_side ((r1 mx ex : Nat) : Int)
  generalize r1 mx ex = N at *
  obtain ⟨a1, a2, a3⟩ := sg_sign (s := false) hn
  have hI : nearI (sg false N) = sg false (nearM N) := by
    unfold nearI
    rw [a1, a2]
  obtain ⟨b1, b2, b3⟩ := sg_sign (s := false) hN0
  have hfd := nearest_fd (s := false) ((ex - k) / 2 - 1) hn
  have hnf := nearI_fd (e := (ex - k) / 2 - 1) (z := sg false N) a3 (by omega) (by rw [a2]; omega)
  rw [hI] at hnf
  rw [hfd, ← hnf]
  have hrep : Rep (sg false (nearM N)) := by rw [← hI]; exact nearI_rep _
  obtain ⟨t, m, p, h1, h2, h3, h4⟩ := read_fd (e := (ex - k) / 2 - 1) (z := sg false (nearM N)) ⟨by omega, by rw [b2]; omega⟩ hrep
  have ht : t = false := by rw [h4 b3, b1]
  subst ht
  have hlt := (fd_lt ((ex - k) / 2 - 1) (sg false (nearM N))).1
  have hM1 : Means (ex - (k + 2 : Nat)) (-sg false (nearM N) * sg false (nearM N)) ((!false) ^^ false) (m * m) (p + p) := by
    have := mul_means h2.opp h2
    rwa [show (ex - (k : Int)) / 2 - 1 + ((ex - (k : Int)) / 2 - 1) = ex - ((k + 2 : Nat) : Int) by omega] at this
  have hM2 : Means (ex - (k + 2 : Nat)) (sg false mx * ((2 ^ (k + 2) : Nat) : Int)) false mx ex := means_low (show Means ex (sg false mx) false mx ex from fun c _ _ => (sg_mul _ _ _).symm) (k + 2)
  have htot : -sg false (nearM N) * sg false (nearM N) + sg false mx * ((2 ^ (k + 2) : Nat) : Int) = ((mx * 2 ^ (k + 2) : Nat) : Int) - ((nearM N * nearM N : Nat) : Int) := by
    have e1 : ∀ n, sg false n = (n : Int) := fun n => rfl
    rw [e1, e1, Int.neg_mul, ← Int.natCast_mul, ← Int.natCast_mul]
    omega
  have hsz : (-sg false (nearM N) * sg false (nearM N) + sg false mx * ((2 ^ (k + 2) : Nat) : Int)).natAbs < 2 ^ 115 := by
    rw [htot]
    have u1 : mx * 2 ^ (k + 2) < 2 ^ 114 := by
      have : mx * 2 ^ (k + 2) < 2 ^ 53 * 2 ^ (k + 2) := Nat.mul_lt_mul_of_pos_right (by rw [p53]; exact x2) (Nat.two_pow_pos _)
      rw [← Nat.pow_add] at this
      exact Nat.lt_of_lt_of_le this (pow_mono (by omega))
    have u2 : nearM N * nearM N < 2 ^ 114 := by
      have v1 : nearM N < 2 ^ 57 := Nat.lt_of_lt_of_le (bl_bounds (Nat.pos_of_ne_zero hN0)).2.1 (pow_mono (by omega))
      have : nearM N * nearM N < 2 ^ 57 * 2 ^ 57 := Nat.mul_lt_mul'' v1 v1
      rwa [← Nat.pow_add] at this
    have u3 : (2 : Nat) ^ 115 = 2 * 2 ^ 114 := by rw [Nat.pow_succ 2 114, Nat.mul_comm]
    generalize (2 : Nat) ^ 114 = g at *
    generalize mx * 2 ^ (k + 2) = a at *
    generalize nearM N * nearM N = b at *
    omega
  have hbt := bl_le hsz
  have hF : Fits (ex - (k + 2 : Nat)) (-sg false (nearM N) * sg false (nearM N) + sg false mx * ((2 ^ (k + 2) : Nat) : Int)) := ⟨by omega, by omega⟩
  have hsum := sum_means hM1 hM2 hF (by intro _; rfl)
  have hord : FloatKind.f64.format.order _ 0 = some (sgnO _) := ord_fd hF (by omega)
  clear hF hbt hsz
  generalize -sg false (nearM N) * sg false (nearM N) + sg false mx * ((2 ^ (k + 2) : Nat) : Int) = T at *
  refine ⟨fd (ex - (k + 2 : Nat)) T, ?_, ?_⟩
  · have hr := read_negW hlt
    rw [h1] at hr
    rw [fma_num hr h1 rx]
    exact hsum
  · rw [hord, htot]
    have a1' : decide (((N : Nat) : Int) < 0) = false := decide_eq_false (by omega)
    have hI' : nearI ((N : Nat) : Int) = ((nearM N : Nat) : Int) := hI
    rw [a1', Int.natAbs_natCast, hI'] at hside
    rw [← hside]
    congr 1
    have := sgnO_sg (s := false) (x := ((mx * 2 ^ (k + 2) : Nat) : Int) - ((nearM N * nearM N : Nat) : Int)) (y := (N : Int) - (nearM N : Nat)) (by omega) (by omega)
    rw [if_neg Bool.false_ne_true, if_neg Bool.false_ne_true] at this
    exact this

theorem root_plain {x : Nat} {p : Bool × Nat × Int} (hx : x < 18446744073709551616) (hxz : x ≠ 9223372036854775808) (px : plainN x = some p) (hs : p.1 = false) :
    ∃ d u, Ends (rootN p) d u ∧ Gives 95 #[.float .f64 x] d u := by
  by_cases hp0 : p.2.1 = 0
  · have hx0 : x = 0 := by
      obtain ⟨s, n, e⟩ := p
      simp only at hp0
      rcases plain_read hx px with ⟨_, _, h, _⟩ | ⟨h, _⟩
      · omega
      · omega
    subst hx0
    have h1 : double.sqrt 0 = some 0 := rfl
    have h2 : double.fma (negW 0) 0 0 = some 0 := rfl
    refine ⟨0, 0, ends_zero ?_, rootF_any 0 0 0 0 0 h1 h2 (fun w => aroundF_eq 0 0 w rfl)⟩
    have hi : isq 0 = 0 := isq_of (by omega) (by omega)
    unfold rootN markN
    simp only
    rw [hp0, Nat.zero_mul, hi]; rfl
  · obtain ⟨sx, mx, ex⟩ := p
    obtain ⟨rx, ox, x1, x2, x3, x4⟩ := plain_parts hx px hp0
    simp only at *
    subst hs
    obtain ⟨N, c, P, hN, hc, k1, k2⟩ := rootN_mark (ex := ex) x1 x2
    have hn : r1 mx ex ≠ 0 := k1.ne hc
    have hb := r1_bl ex x1 x2
    have hk : 56 ≤ rk 56 ex ∧ rk 56 ex ≤ 57 := by unfold rk; split <;> omega
    rw [hN]
    obtain ⟨q, q1, q2⟩ := root_rest rx x1 x2 x3 x4
    have hsq := sqrt_plain rx x1 x2
    have rb := rung_bounds ((ex - rk 56 ex) / 2 - 1) hn
    have e1 := endR_bounds false (n := r1 mx ex) ((ex - rk 56 ex) / 2 - 1) (-1)
    have e2 := endR_bounds false (n := r1 mx ex) ((ex - rk 56 ex) / 2 - 1) 1
    have hE : Ends (false, r1 mx ex, (ex - rk 56 ex) / 2 - 1) (wd false (endR false (r1 mx ex) ((ex - rk 56 ex) / 2 - 1) (-1)).toNat) (wd false (endR false (r1 mx ex) ((ex - rk 56 ex) / 2 - 1) 1).toNat) := ⟨FR_end _ (-1) hn (by omega) (by omega), FR_end _ 1 hn (by omega) (by omega)⟩
    have hA : Gives 141 #[.float .f64 (double.nearest false (r1 mx ex) ((ex - rk 56 ex) / 2 - 1)), .float .f64 q] (wd false (endR false (r1 mx ex) ((ex - rk 56 ex) / 2 - 1) (-1)).toNat) (wd false (endR false (r1 mx ex) ((ex - rk 56 ex) / 2 - 1) 1).toNat) := fun w => around_round false (r1 mx ex) ((ex - rk 56 ex) / 2 - 1) _ w hn (by omega) (by omega) q2
    have hE2 := k1.ends k2 hc (f := (ex - rk 56 ex) / 2 - 1 - 37) (by omega) hE
    exact ⟨_, _, hE2, rootF_any x _ q _ _ hsq q1 hA⟩
end Go.Proofs.YtonhpkigoplmaaaGreatDoor
namespace Go.Proofs.YtonhpkigoplmaaaGreatDoor
open Go.RowKit

theorem run_neq_boolF (w : World) (a b : Bool) : (binOp .neq 4 (.bool a) (.bool b)).run Tryz.prog w = .ok (.bool (a != b)) w := by
  cases a <;> cases b <;> kernel_rfl

set_option maxHeartbeats 400000 in
set_option maxRecDepth 100000 in
theorem product_any (xa xb : Value) (sa sb : Bool) (na nb : Nat) (ea eb : Int) (w : World) (ha : NumV w xa sa na ea) (hb : NumV w xb sb nb eb)
    (hla : (digits na).length ≤ 400000) (hlb : (digits nb).length ≤ 400000) (he1 : -400000 ≤ ea) (he2 : ea ≤ 400000) (he3 : -400000 ≤ eb) (he4 : eb ≤ 400000) :
    Calls Tryz.prog 67 #[xa, xb] w fun ev w' => ∃ x, ev = .returned x ∧ NumV w' x ((sa != sb) && decide (na * nb ≠ 0)) (na * nb) (ea + eb) ∧ Below w.heap.size w w' := by
  obtain ⟨ao, la, ca, rfl, hl1, hNa⟩ := ha
  obtain ⟨bo, lb, cb, rfl, hl2, hNb⟩ := hb
  clear hl1 hl2
  have hq := run_neq_boolF
  go_enter Tryz.func67, Tryz.ntmps67
  go_wp2_with fail
  have B0 := blk_old (blk_old (blk_new w (Obj.cells #[.bool sa, .slice ao la ca, .int .i64 ea] 92)) (Obj.cells #[.bool sb, .slice bo lb cb, .int .i64 eb] 92)) (Obj.cells #[.bool false, .slice none 0 0, .int .i64 0] 92)
  have B1 := blk_old (blk_new (w.alloc (Obj.cells #[.bool sa, .slice ao la ca, .int .i64 ea] 92)) (Obj.cells #[.bool sb, .slice bo lb cb, .int .i64 eb] 92)) (Obj.cells #[.bool false, .slice none 0 0, .int .i64 0] 92)
  have B2 := blk_new ((w.alloc (Obj.cells #[.bool sa, .slice ao la ca, .int .i64 ea] 92)).alloc (Obj.cells #[.bool sb, .slice bo lb cb, .int .i64 eb] 92)) (Obj.cells #[.bool false, .slice none 0 0, .int .i64 0] 92)
  have hW : Below w.heap.size w (((w.alloc (Obj.cells #[.bool sa, .slice ao la ca, .int .i64 ea] 92)).alloc (Obj.cells #[.bool sb, .slice bo lb cb, .int .i64 eb] 92)).alloc (Obj.cells #[.bool false, .slice none 0 0, .int .i64 0] 92)) := (((Below.refl _ _).alloc (Nat.le_refl _) _).alloc (by simp) _).alloc (by simp; omega) _
  simp only [World.size_alloc] at B1 B2
  generalize (((w.alloc (Obj.cells #[.bool sa, .slice ao la ca, .int .i64 ea] 92)).alloc (Obj.cells #[.bool sb, .slice bo lb cb, .int .i64 eb] 92)).alloc (Obj.cells #[.bool false, .slice none 0 0, .int .i64 0] 92)) = W2 at *
  refine (times_any na nb _ _ _ (hNa.below hW (Nat.le_refl _)) (hNb.below hW (Nat.le_refl _)) (by omega) (by omega)).mono ?_
  rintro e w3 ⟨v, rfl, hv, hb3⟩
  obtain ⟨vo, vl, vc, rfl, hvl⟩ := hv.slice2
  have hbA : Below w.heap.size w w3 := hW.trans (hb3.mono hW.size)
  have HB2 : Hid (w3.heap[w.heap.size + 1 + 1]? = _) := blk_below B2 hb3
  obtain ⟨k00, k01, k02, -, -, -⟩ := blk3 (blk_below B0 hb3)
  obtain ⟨k10, k11, k12, -, -, -⟩ := blk3 (blk_below B1 hb3)
  obtain ⟨k20, k21, k22, k23, k24, k25⟩ := blk3 HB2.out
  have fin : Hid (∀ b : Bool, b = ((sa != sb) && decide (na * nb ≠ 0)) → ∃ x, Ending.returned (.agg #[.bool b, .slice vo vl vc, .int .i64 (ea + eb)]) = .returned x ∧ NumV (((w3.setCell ⟨w.heap.size + 1 + 1, 0, none⟩ (.bool b)).setCell ⟨w.heap.size + 1 + 1, 1, none⟩ (.slice vo vl vc)).setCell ⟨w.heap.size + 1 + 1, 2, none⟩ (.int .i64 (ea + eb))) x ((sa != sb) && decide (na * nb ≠ 0)) (na * nb) (ea + eb) ∧ Below w.heap.size w (((w3.setCell ⟨w.heap.size + 1 + 1, 0, none⟩ (.bool b)).setCell ⟨w.heap.size + 1 + 1, 1, none⟩ (.slice vo vl vc)).setCell ⟨w.heap.size + 1 + 1, 2, none⟩ (.int .i64 (ea + eb)))) := by
    intro b hb
    have hbx : BoxT w3 (w.heap.size + 1 + 1) 92 := BoxT.of HB2.out
    have K : Keeps w3 (((w3.setCell ⟨w.heap.size + 1 + 1, 0, none⟩ (.bool b)).setCell ⟨w.heap.size + 1 + 1, 1, none⟩ (.slice vo vl vc)).setCell ⟨w.heap.size + 1 + 1, 2, none⟩ (.int .i64 (ea + eb))) := (((Keeps.refl w3).set hbx (by decide)).set hbx.set (by decide)).set hbx.set.set (by decide)
    refine ⟨_, rfl, ?_, ((hbA.setCell (by simp; omega) _).setCell (by simp; omega) _).setCell (by simp; omega) _⟩
    rw [← hb]
    exact ⟨_, _, _, rfl, hvl.out, hv.keeps K⟩
  have hz : (0 < vl) = (na * nb ≠ 0) := by
    have h1 := hvl.out
    have h2 := len_zero_iff (na * nb)
    apply propext
    omega
  clear B0 B1 B2 hb3 hW hbA hNa hNb hv HB2 hla hlb
  by_cases hs : sa = sb
  · have q : ∀ w, (binOp .neq 4 (.bool sa) (.bool sb)).run Tryz.prog w = .ok (.bool false) w := by
      intro w
      rw [run_neq_boolF, hs, bne_self_eq_false]
    have HE : Hid (false = ((sa != sb) && decide (na * nb ≠ 0))) := by show _ = _; rw [hs, bne_self_eq_false, Bool.false_and]
    clear hq hs hz
    go_wp2_with fail
    refine bodyPost_ret (v := .agg #[.bool false, .slice vo vl vc, .int .i64 (ea + eb)]) (by simp [results, Tryz.results67, go_sem, k20, k21, k22]) rfl ?_
    exact fin.out false HE.out
  · have q : ∀ w, (binOp .neq 4 (.bool sa) (.bool sb)).run Tryz.prog w = .ok (.bool true) w := by
      intro w
      rw [run_neq_boolF, (bne_iff_ne).2 hs]
    by_cases h0 : 0 < vl
    · have HE : Hid (true = ((sa != sb) && decide (na * nb ≠ 0))) := by
        show _ = _
        rw [hz] at h0
        rw [(bne_iff_ne).2 hs, decide_eq_true h0]; rfl
      clear hq hs hz
      go_wp2_with fail
      refine bodyPost_ret (v := .agg #[.bool true, .slice vo vl vc, .int .i64 (ea + eb)]) (by simp [results, Tryz.results67, go_sem, k20, k21, k22]) rfl ?_
      exact fin.out true HE.out
    · have HE : Hid (false = ((sa != sb) && decide (na * nb ≠ 0))) := by
        show _ = _
        rw [hz] at h0
        rw [decide_eq_false h0, Bool.and_false]
      have h1 : vl = 0 := by omega
      clear hq hs hz h0
      subst h1
      go_wp2_with fail
      refine bodyPost_ret (v := .agg #[.bool false, .slice vo 0 vc, .int .i64 (ea + eb)]) (by simp [results, Tryz.results67, go_sem, k20, k21, k22]) rfl ?_
      exact fin.out false HE.out
end Go.Proofs.YtonhpkigoplmaaaGreatDoor
