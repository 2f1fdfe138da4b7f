/-
  OpM, RefD, RefE.
-/
import Derived.Test.YtonhpkigoplmaaaGreatDoorP09
import Derived.Test.YtonhpkigoplmaaaGreatDoorP12
import Derived.Test.YtonhpkigoplmaaaGreatDoorP03
import Derived.Test.YtonhpkigoplmaaaGreatDoorP11
namespace Go.Proofs.YtonhpkigoplmaaaGreatDoor
open Go.RowKit Go.Extern Ieee

def negT (x : Bool × Nat × Int) : Bool × Nat × Int := (negS x.1 x.2.1, x.2.1, x.2.2)
def sumT (x y : Bool × Nat × Int) : Bool × Nat × Int := sumN x.1 x.2.1 x.2.2 y.1 y.2.1 y.2.2
def spanT (a b c d : Bool × Nat × Int) : Nat × Nat × Nat := aroundN (pick4 a b c d (ixLo (pick4 a b c d) 3)) (pick4 a b c d (ixHi (pick4 a b c d) 3))

/-- What encloseref.Op gives. -/
def refOpN (k : Int) (a1 a2 b1 b2 : Bool × Nat × Int) : Nat × Nat × Nat × ByteArray :=
  if k = 0 then ((aroundN (negT a2) (negT a1)).1, (aroundN (negT a2) (negT a1)).2.1, 0, ⟨#[]⟩)
  else if k = 1 then ((spanT a1 a2 b1 b2).1, (spanT a1 a2 b1 b2).2.1, 0, ⟨#[]⟩)
  else if k = 2 then ((meetT a1 a2 b1 b2).1, (meetT a1 a2 b1 b2).2.1, (meetT a1 a2 b1 b2).2.2, ⟨#[]⟩)
  else if k = 3 then nameT (aroundN (sumT a1 b1) (sumT a2 b2)) ⟨#[43]⟩
  else if k = 4 then nameT (aroundN (sumT a1 (negT b2)) (sumT a2 (negT b1))) ⟨#[45]⟩
  else if k = 5 then nameT (spanT (prodN a1 b1) (prodN a1 b2) (prodN a2 b1) (prodN a2 b2)) ⟨#[42]⟩
  else if k = 6 then (if holdsT b1 b2 = true then (0, 0, 4, ⟨#[47]⟩) else nameT (spanT (quoN a1 b1) (quoN a1 b2) (quoN a2 b1) (quoN a2 b2)) ⟨#[47]⟩)
  else if k = 7 then (if sgnI a1.1 a1.2.1 < 0 then (0, 0, 5, ⟨#[115, 113, 114, 116]⟩) else nameT (aroundN (rootN a1) (rootN a2)) ⟨#[115, 113, 114, 116]⟩)
  else ((aroundN a1 a2).1, (aroundN a1 a2).2.1, 0, ⟨#[]⟩)

theorem means_neg {e z : Int} {x : Bool × Nat × Int} (h : MeansT e z x) : MeansT e (-z) (negT x) := by
  obtain ⟨s, n, p⟩ := x
  intro c h1 h2
  have := h c h1 h2
  simp only at this
  show sg (negS s n) (n * 2 ^ (p - c).toNat) = _
  rw [Int.neg_mul, ← this]
  unfold negS sg
  by_cases h0 : n = 0
  · subst h0; simp
  · cases s <;> simp [h0]

theorem means_sgn {e z : Int} {x : Bool × Nat × Int} (h : MeansT e z x) : sgnI x.1 x.2.1 < 0 ↔ z < 0 := by
  obtain ⟨s, n, p⟩ := x
  have := h (min e p) (by simp only; omega) (by omega)
  simp only at this
  have hp1 := Nat.two_pow_pos (p - min e p).toNat
  have hp2 := Nat.two_pow_pos (e - min e p).toNat
  have hz : z < 0 ↔ sg s (n * 2 ^ (p - min e p).toNat) < 0 := by
    rw [this]
    constructor
    · intro hz; exact Int.mul_neg_of_neg_of_pos hz (by omega)
    · intro hz
      apply Decidable.byContradiction
      intro hc
      have := Int.mul_nonneg (show 0 ≤ z by omega) (Int.natCast_nonneg (2 ^ (e - min e p).toNat))
      omega
  rw [hz]
  unfold sgnI sg
  simp only
  by_cases h0 : n = 0
  · subst h0; simp
  · have : 0 < n * 2 ^ (p - min e p).toNat := Nat.mul_pos (Nat.pos_of_ne_zero h0) hp1
    rw [if_neg h0]
    generalize n * 2 ^ (p - min e p).toNat = N at *
    cases s
    · rw [if_neg Bool.false_ne_true, if_neg Bool.false_ne_true]; omega
    · rw [if_pos rfl, if_pos rfl]; omega

theorem means_low2 (x : Bool × Nat × Int) {e : Int} (h : e ≤ x.2.2) : MeansT e (sg x.1 (x.2.1 * 2 ^ (x.2.2 - e).toNat)) x := by
  obtain ⟨s, n, p⟩ := x
  intro c h1 h2
  simp only at *
  rw [sg_mul, Nat.mul_assoc, ← Nat.pow_add]
  congr 3
  omega

theorem lessT_means {e a b : Int} {x y : Bool × Nat × Int} (hx : MeansT e a x) (hy : MeansT e b y) : lessT x y = true ↔ a < b := by
  unfold lessT lessN
  rw [decide_eq_true_eq]
  have := sumN_means hx (means_neg hy)
  have h2 := means_sgn this
  rw [show a < b ↔ a + -b < 0 by omega]
  exact h2

theorem lessT_le (x y : Bool × Nat × Int) : (lessT x y = true → leV x y) ∧ (lessT x y = false → leV y x) := by
  have hx := means_low2 x (e := min x.2.2 y.2.2) (by omega)
  have hy := means_low2 y (e := min x.2.2 y.2.2) (by omega)
  have h := lessT_means hx hy
  constructor
  · intro ht; exact leV_means hx hy (by have := h.1 ht; omega)
  · intro hf
    refine leV_means hy hx ?_
    apply Decidable.byContradiction
    intro hc
    rw [h.2 (by omega)] at hf
    cases hf

theorem lessT_self (x : Bool × Nat × Int) : lessT x x = false := by
  have hx := means_low2 x (Int.le_refl _)
  cases h : lessT x x
  · rfl
  · have := (lessT_means hx hx).1 h; omega

theorem lo_step (x : Nat → Bool × Nat × Int) (i : Nat) : posV (x (ixLo x (i + 1))) (-1) = min (posV (x (ixLo x i)) (-1)) (posV (x (i + 1)) (-1)) := by
  show posV (x (if lessT (x (i + 1)) (x (ixLo x i)) = true then i + 1 else ixLo x i)) (-1) = _
  cases h : lessT (x (i + 1)) (x (ixLo x i))
  · rw [if_neg Bool.false_ne_true]
    have := posV_mono (-1) (Or.inl rfl) ((lessT_le _ _).2 h)
    omega
  · rw [if_pos rfl]
    have := posV_mono (-1) (Or.inl rfl) ((lessT_le _ _).1 h)
    omega

theorem hi_step (x : Nat → Bool × Nat × Int) (i : Nat) : posV (x (ixHi x (i + 1))) 1 = max (posV (x (ixHi x i)) 1) (posV (x (i + 1)) 1) := by
  show posV (x (if lessT (x (ixHi x i)) (x (i + 1)) = true then i + 1 else ixHi x i)) 1 = _
  cases h : lessT (x (ixHi x i)) (x (i + 1))
  · rw [if_neg Bool.false_ne_true]
    have := posV_mono 1 (Or.inr rfl) ((lessT_le _ _).2 h)
    omega
  · rw [if_pos rfl]
    have := posV_mono 1 (Or.inr rfl) ((lessT_le _ _).1 h)
    omega

theorem span_posV (a b c d : Bool × Nat × Int) : spanT a b c d = boxP (min (min (min (posV a (-1)) (posV b (-1))) (posV c (-1))) (posV d (-1))) (max (max (max (posV a 1) (posV b 1)) (posV c 1)) (posV d 1)) := by
  unfold spanT
  rw [aroundN_posV]
  have l2 := lo_step (pick4 a b c d) 2
  have l1 := lo_step (pick4 a b c d) 1
  have l0 := lo_step (pick4 a b c d) 0
  have g2 := hi_step (pick4 a b c d) 2
  have g1 := hi_step (pick4 a b c d) 1
  have g0 := hi_step (pick4 a b c d) 0
  have e0 : pick4 a b c d (ixLo (pick4 a b c d) 0) = a := rfl
  have f0 : pick4 a b c d (ixHi (pick4 a b c d) 0) = a := rfl
  rw [e0] at l0
  rw [f0] at g0
  rw [l0] at l1; rw [l1] at l2; rw [g0] at g1; rw [g1] at g2
  rw [l2, g2]
  rfl

theorem nameT_boxP (p q : Int) (s : ByteArray) : nameT (boxP p q) s = ((boxP p q).1, (boxP p q).2.1, (boxP p q).2.2, opS s (boxP p q).2.2) := by
  unfold nameT boxP opS
  split
  · rfl
  · rfl

/-- An interval's two words. -/
structure Iv (l h : Nat) : Prop where
  lt1 : l < 18446744073709551616
  lt2 : h < 18446744073709551616
  z1 : l ≠ 9223372036854775808
  z2 : h ≠ 9223372036854775808
  p1 : plainN l = some (plT l)
  p2 : plainN h = some (plT h)
  le : posF l ≤ posF h

theorem Iv.f1 {l h : Nat} (i : Iv l h) : FR l (posF l) := FR_plain i.lt1 i.z1 (by rw [i.p1]; rfl)
theorem Iv.f2 {l h : Nat} (i : Iv l h) : FR h (posF h) := FR_plain i.lt2 i.z2 (by rw [i.p2]; rfl)
theorem Iv.q1 {l h : Nat} (i : Iv l h) : plP (posF l) = true := by rw [← i.f1.plain, i.p1]; rfl
theorem Iv.q2 {l h : Nat} (i : Iv l h) : plP (posF h) = true := by rw [← i.f2.plain, i.p2]; rfl
theorem Iv.v1 {l h : Nat} (i : Iv l h) (way : Int) : posV (plT l) way = posF l := posV_plain i.lt1 i.p1 way
theorem Iv.v2 {l h : Nat} (i : Iv l h) (way : Int) : posV (plT h) way = posF h := posV_plain i.lt2 i.p2 way

theorem plT_some {b : Nat} (h : (plainN b).isSome = true) : plainN b = some (plT b) := by
  unfold plT
  cases hb : plainN b with
  | none => rw [hb] at h; cases h
  | some x => rfl

theorem plainN_posW (b : Nat) (hb : b < 18446744073709551616) : plainN (posW b) = plainN b := by
  unfold posW
  split
  · rename_i h
    have : b = 0 ∨ b = 9223372036854775808 := by omega
    rcases this with rfl | rfl <;> rfl
  · rfl

theorem posW_nz (b : Nat) : posW b ≠ 9223372036854775808 := by
  unfold posW
  split
  · decide
  · intro hc; subst hc; rename_i h; exact h rfl

theorem made_iv (lo hi : Nat) (h1 : lo < 18446744073709551616) (h2 : hi < 18446744073709551616) : Iv (makeN lo hi).1 (makeN lo hi).2.1 := by
  have z : Iv 0 0 := ⟨by omega, by omega, by omega, by omega, rfl, rfl, Int.le_refl _⟩
  unfold makeN
  split
  · exact z
  · rename_i hp
    split
    · exact z
    · rename_i hl
      have p1 : (plainN lo).isSome = true := by cases h : (plainN lo).isSome <;> simp_all
      have p2 : (plainN hi).isSome = true := by cases h : (plainN hi).isSome <;> simp_all
      have e1 : plT (posW lo) = plT lo := by unfold plT; rw [plainN_posW _ h1]
      have e2 : plT (posW hi) = plT hi := by unfold plT; rw [plainN_posW _ h2]
      have q1 : plainN (posW lo) = some (plT lo) := by rw [plainN_posW _ h1]; exact plT_some p1
      have q2 : plainN (posW hi) = some (plT hi) := by rw [plainN_posW _ h2]; exact plT_some p2
      refine ⟨posW_lt h1, posW_lt h2, posW_nz _, posW_nz _, by rw [e1]; exact q1, by rw [e2]; exact q2, ?_⟩
      rw [← posV_plain (posW_lt h1) q1 1, ← posV_plain (posW_lt h2) q2 1]
      refine posV_mono 1 (Or.inr rfl) ((lessT_le (plT hi) (plT lo)).2 ?_)
      cases hh : lessT (plT hi) (plT lo)
      · rfl
      · exact absurd hh hl

theorem boxP_plain {p q : Int} (h1 : plP p = true) (h2 : plP q = true) : boxP p q = (wdP p, wdP q, 0) := by
  unfold boxP; rw [if_pos ⟨h1, h2⟩]

theorem Iv.box {l h : Nat} (i : Iv l h) : boxP (posF l) (posF h) = (l, h, 0) := by
  rw [boxP_plain i.q1 i.q2, ← i.f1.word i.q1, ← i.f2.word i.q2]

/-- Less, by the places. -/
theorem lessT_pos {a b l h : Nat} (i : Iv l a) (j : Iv h b) : lessT (plT a) (plT b) = decide (posF a < posF b) := by
  cases hl : lessT (plT a) (plT b)
  · have := posV_mono 1 (Or.inr rfl) ((lessT_le _ _).2 hl)
    rw [i.v2, j.v2] at this
    rw [decide_eq_false (by omega)]
  · have := posV_mono 1 (Or.inr rfl) ((lessT_le _ _).1 hl)
    rw [i.v2, j.v2] at this
    rw [decide_eq_true]
    apply Decidable.byContradiction
    intro hc
    have he : posF a = posF b := by omega
    have : a = b := by
      rw [i.f2.word i.q2, j.f2.word j.q2, he]
    subst this
    rw [lessT_self] at hl
    cases hl

theorem Iv.low {l h : Nat} (i : Iv l h) : Iv l l := ⟨i.lt1, i.lt1, i.z1, i.z1, i.p1, i.p1, Int.le_refl _⟩
theorem Iv.high {l h : Nat} (i : Iv l h) : Iv h h := ⟨i.lt2, i.lt2, i.z2, i.z2, i.p2, i.p2, Int.le_refl _⟩

theorem kw_cases (d : Nat) : kw d = if 9223372036854775808 ≤ d then -((d % 9223372036854775808 : Nat) : Int) else ((d % 9223372036854775808 : Nat) : Int) := by
  unfold kw sg
  by_cases h : 9223372036854775808 ≤ d
  · rw [decide_eq_true h, if_pos rfl, if_pos h]
  · rw [decide_eq_false h, if_neg Bool.false_ne_true, if_neg h]

theorem negW_eq {b : Nat} (hb : b < 18446744073709551616) : negW b = if 9223372036854775808 ≤ b then b - 9223372036854775808 else b + 9223372036854775808 := by
  have := negW_wd (s := decide (9223372036854775808 ≤ b)) (R := b % 9223372036854775808) (by omega)
  rw [wd_self hb] at this
  rw [this]
  unfold wd
  by_cases h : 9223372036854775808 ≤ b
  · rw [decide_eq_true h, if_pos h]; simp; omega
  · rw [decide_eq_false h, if_neg h]; simp; omega

theorem plain_neg {b : Nat} {x : Bool × Nat × Int} (hb : b < 18446744073709551616) (h : plainN b = some x) : plainN (negW b) = some (negT x) := by
  have hn := negW_eq hb
  have e1 : negW b / 4503599627370496 % 2048 = b / 4503599627370496 % 2048 := by rw [hn]; split <;> omega
  have e2 : negW b % 4503599627370496 = b % 4503599627370496 := by rw [hn]; split <;> omega
  have e3 : negW b / 9223372036854775808 = 1 ↔ ¬ b / 9223372036854775808 = 1 := by rw [hn]; split <;> omega
  unfold plainN at h ⊢
  rw [e1, e2]
  split at h
  · rename_i h0
    rw [if_pos h0]
    cases h; rfl
  · rename_i h0
    rw [if_neg h0]
    split at h
    · cases h
    · rename_i h1
      rw [if_neg h1]
      cases h
      unfold negT negS
      simp only
      congr 2
      by_cases hd : b / 9223372036854775808 = 1
      · rw [decide_eq_true hd, decide_eq_false (fun hc => e3.1 hc hd)]; rfl
      · rw [decide_eq_false hd, decide_eq_true (e3.2 hd)]; simp

theorem negW_lt {b : Nat} (hb : b < 18446744073709551616) : negW b < 18446744073709551616 := by
  rw [negW_eq hb]; split <;> omega

/-- The sign, by the order. -/
theorem sgn_order {l h : Nat} (i : Iv l h) : ∃ o, FloatKind.f64.format.order l 0 = some o ∧ (o = .lt ↔ sgnI (plT l).1 (plT l).2.1 < 0) ∧ (o = .gt ↔ 0 < sgnI (plT l).1 (plT l).2.1) := by
  have ho : double.order l 0 = _ := order_kw i.f1 FR_zero
  refine ⟨_, ho, ?_⟩
  have k0 : kw 0 = 0 := rfl
  rw [k0, kw_cases]
  have hp := i.p1
  have h1 := i.lt1
  have h2 := i.z1
  generalize plT l = x at *
  unfold plainN at hp
  split at hp
  · rename_i h0
    have : l = 0 := by omega
    subst this
    cases hp
    decide
  · rename_i h0
    split at hp
    · cases hp
    · cases hp
      unfold sgnI
      simp only
      rw [if_neg (show ¬ l % 4503599627370496 + 4503599627370496 = 0 by omega)]
      by_cases hd : 9223372036854775808 ≤ l
      · rw [if_pos hd, decide_eq_true (show l / 9223372036854775808 = 1 by omega)]
        have : compare (-((l % 9223372036854775808 : Nat) : Int)) 0 = .lt := Int.compare_eq_lt.2 (by omega)
        rw [this]; simp
      · rw [if_neg hd, decide_eq_false (show ¬ l / 9223372036854775808 = 1 by omega)]
        have : compare ((l % 9223372036854775808 : Nat) : Int) 0 = .gt := Int.compare_eq_gt.2 (by omega)
        rw [this]; simp

theorem quoT_quoN (x y : Bool × Nat × Int) : quoT x.1 x.2.1 x.2.2 y.1 y.2.1 y.2.2 = quoN x y := by
  have e : ∀ q w, mkN q w = 2 * q + (if w then 0 else 1) := fun q w => by unfold mkN; omega
  unfold quoT quoN markN
  rw [e]

theorem rkT_rk (e : Int) : rkT e = rk 130 e := by
  unfold rkT rk; rfl

theorem root_rootN {x : Bool × Nat × Int} {c : Nat} (h : IsRoot (x.2.1 * 2 ^ rkT x.2.2) c) : ((false, mkN c (decide (c * c = x.2.1 * 2 ^ rkT x.2.2)), (x.2.2 - rkT x.2.2) / 2 - 1) : Bool × Nat × Int) = rootN x := by
  rw [rkT_rk] at h ⊢
  have hc : isq (x.2.1 * 2 ^ rk 130 x.2.2) = c := isq_of h.1 h.2
  unfold rootN markN mkN
  rw [hc]
  simp only [Bool.false_and]
  congr 2
  omega
end Go.Proofs.YtonhpkigoplmaaaGreatDoor
namespace Go.Proofs.YtonhpkigoplmaaaGreatDoor
open Go.RowKit

/-- Two boxes of type Ival and the result's box, all among the first n0. -/
structure DSt (w W : World) (g2 ga gb n0 : Nat) (a b : Array Value) : Prop where
  k0 : W.heap[ga]? = some (.cells a 98 (0, 0))
  k1 : W.heap[gb]? = some (.cells b 98 (0, 0))
  k2 : W.heap[g2]? = some (.cells #[.int .u64 0, .int .u64 0] 28 (0, 0))
  hb : Below w.heap.size w W
  h0 : ga < n0
  h1 : gb < n0
  h2 : g2 < n0
  sz : n0 ≤ W.heap.size
  l2 : w.heap.size ≤ g2

theorem DSt.below {w W W' : World} {g2 ga gb n0 : Nat} {a b : Array Value} (m : DSt w W g2 ga gb n0 a b) (hb : Below W.heap.size W W') : DSt w W' g2 ga gb n0 a b :=
  ⟨blk_below m.k0 hb, blk_below m.k1 hb, blk_below m.k2 hb, m.hb.trans (hb.mono m.hb.size), m.h0, m.h1, m.h2, Nat.le_trans m.sz hb.size, m.l2⟩
theorem DSt.alloc {w W : World} {g2 ga gb n0 : Nat} {a b : Array Value} (m : DSt w W g2 ga gb n0 a b) (o : Obj) : DSt w (W.alloc o) g2 ga gb n0 a b := m.below ((Below.refl _ _).alloc (Nat.le_refl _) o)
theorem DSt.drew {w W : World} {g2 ga gb n0 : Nat} {a b : Array Value} (m : DSt w W g2 ga gb n0 a b) : DSt w W.drew g2 ga gb n0 a b := ⟨m.k0, m.k1, m.k2, m.hb.drew, m.h0, m.h1, m.h2, m.sz, m.l2⟩

/-- A new box, behind the first n0. -/
def Box0 (n0 : Nat) (W : World) (g : Nat) : Prop := W.heap[g]? = some (.cells #[.int .u64 0, .int .u64 0] 28 (0, 0)) ∧ n0 ≤ g
theorem Box0.below {n0 g : Nat} {W W' : World} (h : Box0 n0 W g) (hb : Below W.heap.size W W') : Box0 n0 W' g := ⟨blk_below h.1 hb, h.2⟩
theorem Box0.alloc {n0 g : Nat} {W : World} (h : Box0 n0 W g) (o : Obj) : Box0 n0 (W.alloc o) g := ⟨blk_old h.1 o, h.2⟩
theorem Box0.new {n0 : Nat} {W : World} (h : n0 ≤ W.heap.size) : Box0 n0 (W.alloc (Obj.cells #[.int .u64 0, .int .u64 0] 28)) W.heap.size := ⟨blk_new W _, h⟩

theorem Box0.drew {n0 g : Nat} {W : World} (h : Box0 n0 W g) : Box0 n0 W.drew g := h

theorem DSt.set2 {w W : World} {g2 ga gb n0 g : Nat} {a b : Array Value} (m : DSt w W g2 ga gb n0 a b) (z : Box0 n0 W g) (x y : Value) : DSt w ((W.setCell ⟨g, 0, none⟩ x).setCell ⟨g, 1, none⟩ y) g2 ga gb n0 a b := by
  have e0 : ga ≠ g := by have := m.h0; have := z.2; omega
  have e1 : gb ≠ g := by have := m.h1; have := z.2; omega
  have e2 : g2 ≠ g := by have := m.h2; have := z.2; omega
  have e3 : w.heap.size ≤ g := by have := m.h2; have := z.2; have := m.l2; omega
  exact ⟨blk_set_ne (blk_set_ne m.k0 e0) e0, blk_set_ne (blk_set_ne m.k1 e1) e1, blk_set_ne (blk_set_ne m.k2 e2) e2, (m.hb.setCell (by exact e3) _).setCell (by exact e3) _, m.h0, m.h1, m.h2, by simp only [World.size_setCell]; exact m.sz, m.l2⟩

theorem DSt.cells {w W : World} {g2 ga gb n0 : Nat} {p0 p1 p2 p3 p4 p5 q0 q1 q2 q3 q4 q5 : Value} (m : DSt w W g2 ga gb n0 #[p0, p1, p2, p3, p4, p5] #[q0, q1, q2, q3, q4, q5]) :
    W.cell? ⟨ga, 0, none⟩ = some p0 ∧ W.cell? ⟨ga, 1, none⟩ = some p1 ∧ W.cell? ⟨ga, 2, none⟩ = some p2 ∧ W.cell? ⟨ga, 3, none⟩ = some p3 ∧ W.cell? ⟨ga, 4, none⟩ = some p4 ∧ W.cell? ⟨ga, 5, none⟩ = some p5 ∧ W.cell? ⟨gb, 0, none⟩ = some q0 ∧ W.cell? ⟨gb, 1, none⟩ = some q1 ∧ W.cell? ⟨gb, 2, none⟩ = some q2 ∧ W.cell? ⟨gb, 3, none⟩ = some q3 ∧ W.cell? ⟨gb, 4, none⟩ = some q4 ∧ W.cell? ⟨gb, 5, none⟩ = some q5 := by
  obtain ⟨x0, x1, x2, x3, x4, x5, -, -, -, -, -, -⟩ := blk6 m.k0
  obtain ⟨y0, y1, y2, y3, y4, y5, -, -, -, -, -, -⟩ := blk6 m.k1
  exact ⟨x0, x1, x2, x3, x4, x5, y0, y1, y2, y3, y4, y5⟩

/-- The end of a region: the new box is written, the result's is not yet. -/
structure Fin (w W : World) (g2 g : Nat) (x y : Value) : Prop where
  c : W.heap[g]? = some (.cells #[x, y] 28 (0, 0))
  k2 : W.heap[g2]? = some (.cells #[.int .u64 0, .int .u64 0] 28 (0, 0))
  hb : Below w.heap.size w W
  l2 : w.heap.size ≤ g2

theorem DSt.finSet {w W : World} {g2 ga gb n0 g : Nat} {a b : Array Value} (m : DSt w W g2 ga gb n0 a b) (z : Box0 n0 W g) (x y : Value) : Fin w ((W.setCell ⟨g, 0, none⟩ x).setCell ⟨g, 1, none⟩ y) g2 g x y :=
  ⟨blk_store2 z.1, (m.set2 z x y).k2, (m.set2 z x y).hb, m.l2⟩
theorem DSt.finNew {w W : World} {g2 ga gb n0 : Nat} {a b : Array Value} (m : DSt w W g2 ga gb n0 a b) (x y : Value) : Fin w (W.alloc (Obj.cells #[x, y] 28)) g2 W.heap.size x y :=
  ⟨blk_new W _, (m.alloc _).k2, (m.alloc _).hb, m.l2⟩
end Go.Proofs.YtonhpkigoplmaaaGreatDoor
namespace Go.Proofs.YtonhpkigoplmaaaGreatDoor
open Go.RowKit

/-- Two boxes of type Ival, two of type Num and the result's box, all older than the world u. -/
structure ESt (w u W : World) (g2 ga gb gc gd : Nat) (a b c d : Array Value) : Prop where
  k0 : W.heap[ga]? = some (.cells a 98 (0, 0))
  k1 : W.heap[gb]? = some (.cells b 98 (0, 0))
  k2 : W.heap[g2]? = some (.cells #[.int .u64 0, .int .u64 0] 28 (0, 0))
  kc : W.heap[gc]? = some (.cells c 92 (0, 0))
  kd : W.heap[gd]? = some (.cells d 92 (0, 0))
  hb : Below w.heap.size w W
  hu : Below u.heap.size u W
  h0 : ga < u.heap.size
  h1 : gb < u.heap.size
  h2 : g2 < u.heap.size
  hc : gc < u.heap.size
  hd : gd < u.heap.size
  l2 : w.heap.size ≤ g2

theorem ESt.sz {w u W : World} {g2 ga gb gc gd : Nat} {a b c d : Array Value} (m : ESt w u W g2 ga gb gc gd a b c d) : u.heap.size ≤ W.heap.size := m.hu.size
theorem ESt.below {w u W W' : World} {g2 ga gb gc gd : Nat} {a b c d : Array Value} (m : ESt w u W g2 ga gb gc gd a b c d) (hb : Below W.heap.size W W') : ESt w u W' g2 ga gb gc gd a b c d :=
  ⟨blk_below m.k0 hb, blk_below m.k1 hb, blk_below m.k2 hb, blk_below m.kc hb, blk_below m.kd hb, m.hb.trans (hb.mono m.hb.size), m.hu.trans (hb.mono m.hu.size), m.h0, m.h1, m.h2, m.hc, m.hd, m.l2⟩
theorem ESt.alloc {w u W : World} {g2 ga gb gc gd : Nat} {a b c d : Array Value} (m : ESt w u W g2 ga gb gc gd a b c d) (o : Obj) : ESt w u (W.alloc o) g2 ga gb gc gd a b c d := m.below ((Below.refl _ _).alloc (Nat.le_refl _) o)
theorem ESt.drew {w u W : World} {g2 ga gb gc gd : Nat} {a b c d : Array Value} (m : ESt w u W g2 ga gb gc gd a b c d) : ESt w u W.drew g2 ga gb gc gd a b c d := ⟨m.k0, m.k1, m.k2, m.kc, m.kd, m.hb.drew, m.hu.drew, m.h0, m.h1, m.h2, m.hc, m.hd, m.l2⟩
theorem ESt.set2 {w u W : World} {g2 ga gb gc gd g : Nat} {a b c d : Array Value} (m : ESt w u W g2 ga gb gc gd a b c d) (z : Box0 u.heap.size W g) (x y : Value) : ESt w u ((W.setCell ⟨g, 0, none⟩ x).setCell ⟨g, 1, none⟩ y) g2 ga gb gc gd a b c d := by
  have hz := z.2
  have e0 : ga ≠ g := by have := m.h0; omega
  have e1 : gb ≠ g := by have := m.h1; omega
  have e2 : g2 ≠ g := by have := m.h2; omega
  have e4 : gc ≠ g := by have := m.hc; omega
  have e5 : gd ≠ g := by have := m.hd; omega
  have e3 : w.heap.size ≤ g := by have := m.h2; have := m.l2; omega
  exact ⟨blk_set_ne (blk_set_ne m.k0 e0) e0, blk_set_ne (blk_set_ne m.k1 e1) e1, blk_set_ne (blk_set_ne m.k2 e2) e2, blk_set_ne (blk_set_ne m.kc e4) e4, blk_set_ne (blk_set_ne m.kd e5) e5, (m.hb.setCell (by exact e3) _).setCell (by exact e3) _, (m.hu.setCell (by exact hz) _).setCell (by exact hz) _, m.h0, m.h1, m.h2, m.hc, m.hd, m.l2⟩

theorem ESt.cells {w u W : World} {g2 ga gb gc gd : Nat} {p0 p1 p2 p3 p4 p5 q0 q1 q2 q3 q4 q5 : Value} {c d : Array Value} (m : ESt w u W g2 ga gb gc gd #[p0, p1, p2, p3, p4, p5] #[q0, q1, q2, q3, q4, q5] c d) :
    W.cell? ⟨ga, 0, none⟩ = some p0 ∧ W.cell? ⟨ga, 1, none⟩ = some p1 ∧ W.cell? ⟨ga, 2, none⟩ = some p2 ∧ W.cell? ⟨ga, 3, none⟩ = some p3 ∧ W.cell? ⟨ga, 4, none⟩ = some p4 ∧ W.cell? ⟨ga, 5, none⟩ = some p5 ∧ W.cell? ⟨gb, 0, none⟩ = some q0 ∧ W.cell? ⟨gb, 1, none⟩ = some q1 ∧ W.cell? ⟨gb, 2, none⟩ = some q2 ∧ W.cell? ⟨gb, 3, none⟩ = some q3 ∧ W.cell? ⟨gb, 4, none⟩ = some q4 ∧ W.cell? ⟨gb, 5, none⟩ = some q5 := by
  obtain ⟨x0, x1, x2, x3, x4, x5, -, -, -, -, -, -⟩ := blk6 m.k0
  obtain ⟨y0, y1, y2, y3, y4, y5, -, -, -, -, -, -⟩ := blk6 m.k1
  exact ⟨x0, x1, x2, x3, x4, x5, y0, y1, y2, y3, y4, y5⟩
theorem ESt.cells4 {w u W : World} {g2 ga gb gc gd : Nat} {p0 p1 p2 p3 p4 p5 q0 q1 q2 r0 r1 r2 : Value} {b : Array Value} (m : ESt w u W g2 ga gb gc gd #[p0, p1, p2, p3, p4, p5] b #[q0, q1, q2] #[r0, r1, r2]) :
    W.cell? ⟨ga, 0, none⟩ = some p0 ∧ W.cell? ⟨ga, 1, none⟩ = some p1 ∧ W.cell? ⟨ga, 2, none⟩ = some p2 ∧ W.cell? ⟨ga, 3, none⟩ = some p3 ∧ W.cell? ⟨ga, 4, none⟩ = some p4 ∧ W.cell? ⟨ga, 5, none⟩ = some p5 ∧ W.cell? ⟨gc, 0, none⟩ = some q0 ∧ W.cell? ⟨gc, 1, none⟩ = some q1 ∧ W.cell? ⟨gc, 2, none⟩ = some q2 ∧ W.cell? ⟨gd, 0, none⟩ = some r0 ∧ W.cell? ⟨gd, 1, none⟩ = some r1 ∧ W.cell? ⟨gd, 2, none⟩ = some r2 := by
  obtain ⟨x0, x1, x2, x3, x4, x5, -, -, -, -, -, -⟩ := blk6 m.k0
  obtain ⟨y0, y1, y2, -, -, -⟩ := blk3 m.kc
  obtain ⟨z0, z1, z2, -, -, -⟩ := blk3 m.kd
  exact ⟨x0, x1, x2, x3, x4, x5, y0, y1, y2, z0, z1, z2⟩
theorem ESt.finSet {w u W : World} {g2 ga gb gc gd g : Nat} {a b c d : Array Value} (m : ESt w u W g2 ga gb gc gd a b c d) (z : Box0 u.heap.size W g) (x y : Value) : Fin w ((W.setCell ⟨g, 0, none⟩ x).setCell ⟨g, 1, none⟩ y) g2 g x y :=
  ⟨blk_store2 z.1, (m.set2 z x y).k2, (m.set2 z x y).hb, m.l2⟩
theorem ESt.finNew {w u W : World} {g2 ga gb gc gd : Nat} {a b c d : Array Value} (m : ESt w u W g2 ga gb gc gd a b c d) (x y : Value) : Fin w (W.alloc (Obj.cells #[x, y] 28)) g2 W.heap.size x y :=
  ⟨blk_new W _, (m.alloc _).k2, (m.alloc _).hb, m.l2⟩

/-- What Made gives. -/
def MadeG (args : Array Value) (x y : Bool × Nat × Int) : Prop := ∀ W : World, Calls Tryz.prog 60 args W fun e w' => ∃ ao la ca bo lb cb, e = .returned (.agg #[.bool x.1, .slice ao la ca, .int .i64 x.2.2, .bool y.1, .slice bo lb cb, .int .i64 y.2.2]) ∧ la = (digits x.2.1).length ∧ lb = (digits y.2.1).length ∧ NatV w' (.slice ao la ca) x.2.1 ∧ NatV w' (.slice bo lb cb) y.2.1 ∧ Below W.heap.size W w'

theorem made_gives (lo hi : Nat) (h1 : lo < 18446744073709551616) (h2 : hi < 18446744073709551616) : MadeG #[.agg #[.int .u64 (lo : Int), .int .u64 (hi : Int)]] (plT (makeN lo hi).1) (plT (makeN lo hi).2.1) := by
  intro W
  refine (refMade_any lo hi W h1 h2).mono ?_
  rintro e w' h
  obtain ⟨v, rfl, ⟨ao, la, ca, bo, lb, cb, rfl, hla, hlb, hna, hnb⟩, hb⟩ := h
  exact ⟨ao, la, ca, bo, lb, cb, rfl, hla, hlb, hna, hnb, hb⟩
theorem negated_g (x : Bool × Nat × Int) (W : World) (o : Option Addr) (l c : Nat) (hl : l = (digits x.2.1).length) (hn : NatV W (.slice o l c) x.2.1) :
    Calls Tryz.prog 61 #[.agg #[.bool x.1, .slice o l c, .int .i64 x.2.2]] W fun e w' => ∃ o' l' c', e = .returned (.agg #[.bool (negS x.1 x.2.1), .slice o' l' c', .int .i64 x.2.2]) ∧ l' = (digits x.2.1).length ∧ NatV w' (.slice o' l' c') x.2.1 ∧ Below W.heap.size W w' := by
  refine (negated_any _ x.1 x.2.1 x.2.2 W ⟨o, l, c, rfl, hl, hn⟩).mono ?_
  rintro e w' ⟨x', rfl, ⟨o', l', c', rfl, h2, h3⟩, h4⟩
  exact ⟨o', l', c', rfl, h2, h3, h4⟩
end Go.Proofs.YtonhpkigoplmaaaGreatDoor
