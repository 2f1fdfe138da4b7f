/-
  OpD, KnowM, KnowQ, KnowR, PolyM, PieceM, LawA, LawB, Opens, OpensP, PolyW, PolyR, ApR, ApF, ApP, ApL.
-/
import Derived.Test.YtonhpkigoplmaaaGreatDoorF09
import Derived.Test.YtonhpkigoplmaaaGreatDoorF10
import Derived.Test.YtonhpkigoplmaaaGreatDoorF04
import Derived.Deep.Slices
import Derived.Lib.SmallJoins
import Derived.ProofKit
import Derived.OpenShut
import Derived.SizedLaws
import Derived.Test.YtonhpkigoplmaaaGreatDoorF03
import Derived.Test.YtonhpkigoplmaaaGreatDoorF01
namespace Go.Proofs.YtonhpkigoplmaaaGreatDoor
open Go.RowKit Go.Extern Ieee

theorem kw_lt {d f : Nat} {p q : Int} (hd : FR d p) (hf : FR f q) (pd : plP p = true) (pf : plP q = true) : kw d < kw f ↔ p < q := by
  have e1 := posF_kw d
  have e2 := posF_kw f
  rw [hd.pos] at e1
  rw [hf.pos] at e2
  constructor
  · intro h
    have h1 := pos_mono_kw (Int.le_of_lt h)
    rw [← e1, ← e2] at h1
    apply Decidable.byContradiction
    intro hc
    have he : p = q := by omega
    have : d = f := by rw [hd.word pd, hf.word pf, he]
    subst this
    omega
  · intro h
    apply Decidable.byContradiction
    intro hc
    have h1 := pos_mono_kw (show kw f ≤ kw d by omega)
    rw [← e1, ← e2] at h1
    omega

theorem box2 {u v : Nat} (i : Iv u u) (j : Iv v v) : boxP (posF u) (posF v) = (u, v, 0) := by
  rw [boxP_plain i.q1 j.q1, ← i.f1.word i.q1, ← j.f1.word j.q1]

theorem posW_iv {b : Nat} {x : Bool × Nat × Int} (hb : b < 18446744073709551616) (h : plainN b = some x) : Iv (posW b) (posW b) ∧ ∀ way, posV x way = posF (posW b) := by
  have e : plainN (posW b) = some x := by rw [plainN_posW _ hb]; exact h
  have e2 : plT (posW b) = x := by unfold plT; rw [e]; rfl
  exact ⟨⟨posW_lt hb, posW_lt hb, posW_nz _, posW_nz _, by rw [e2]; exact e, by rw [e2]; exact e, Int.le_refl _⟩, fun way => posV_plain (posW_lt hb) e way⟩

theorem Iv.word {u d : Nat} (i : Iv u u) (f : FR d (posF u)) : d = u := (f.word i.q1).trans (i.f1.word i.q1).symm

theorem plT_pos {l h : Nat} (i : Iv l h) (hs : ¬ sgnI (plT l).1 (plT l).2.1 < 0) : (plT l).1 = false := by
  have hp := i.p1
  generalize plT l = x at *
  unfold plainN at hp
  split at hp
  · cases hp; rfl
  · split at hp
    · cases hp
    · cases hp
      unfold sgnI at hs
      simp only at hs ⊢
      rw [if_neg (show ¬ l % 4503599627370496 + 4503599627370496 = 0 by omega)] at hs
      cases hd : decide (l / 9223372036854775808 = 1)
      · rfl
      · rw [hd, if_pos rfl] at hs; omega

theorem case_neg (A : Nat → Addr) {al ah bl_ bh : Nat} (i : Iv al ah) : OpCase A 0 al ah bl_ bh (aroundN (negT (plT ah)) (negT (plT al))).1 (aroundN (negT (plT ah)) (negT (plT al))).2.1 0 ⟨#[]⟩ := by
  have n1 := plain_neg i.lt1 i.p1
  have n2 := plain_neg i.lt2 i.p2
  obtain ⟨a1, a2⟩ := posW_iv (negW_lt i.lt1) n1
  obtain ⟨b1, b2⟩ := posW_iv (negW_lt i.lt2) n2
  rw [aroundN_posV, a2, b2, box2 b1 a1]
  exact Or.inl ⟨rfl, rfl, rfl, (fun w => negF_any al ah w (negW_lt i.lt1) (negW_lt i.lt2) (by rw [n1]; rfl) (by rw [n2]; rfl))⟩

theorem plP_min {p q : Int} (h1 : plP p = true) (h2 : plP q = true) : plP (min p q) = true := by
  rcases Int.le_total p q with h | h
  · rw [Int.min_eq_left h]; exact h1
  · rw [Int.min_eq_right h]; exact h2
theorem plP_max {p q : Int} (h1 : plP p = true) (h2 : plP q = true) : plP (max p q) = true := by
  rcases Int.le_total p q with h | h
  · rw [Int.max_eq_right h]; exact h2
  · rw [Int.max_eq_left h]; exact h1

theorem case_hull (A : Nat → Addr) {al ah bl_ bh : Nat} (i : Iv al ah) (j : Iv bl_ bh) : OpCase A 1 al ah bl_ bh (spanT (plT al) (plT ah) (plT bl_) (plT bh)).1 (spanT (plT al) (plT ah) (plT bl_) (plT bh)).2.1 0 ⟨#[]⟩ := by
  rw [span_posV, i.v1, i.v2, j.v1, j.v2, i.v1, i.v2, j.v1, j.v2]
  have hi := i.le
  have hj := j.le
  have e1 : min (min (min (posF al) (posF ah)) (posF bl_)) (posF bh) = min (posF al) (posF bl_) := by omega
  have e2 : max (max (max (posF al) (posF ah)) (posF bl_)) (posF bh) = max (posF ah) (posF bh) := by omega
  rw [e1, e2, boxP_plain (plP_min i.q1 j.q1) (plP_max i.q2 j.q2)]
  rw [← (i.f1.mn j.f1).word (plP_min i.q1 j.q1), ← (i.f2.mx j.f2).word (plP_max i.q2 j.q2)]
  exact Or.inr (Or.inl ⟨rfl, rfl, rfl, (fun w => hullF_any al ah bl_ bh _ _ _ _ w i.f1 i.f2 j.f1 j.f2)⟩)

theorem case_meet (A : Nat → Addr) {al ah bl_ bh : Nat} (i : Iv al ah) (j : Iv bl_ bh) : OpCase A 2 al ah bl_ bh (meetT (plT al) (plT ah) (plT bl_) (plT bh)).1 (meetT (plT al) (plT ah) (plT bl_) (plT bh)).2.1 (meetT (plT al) (plT ah) (plT bl_) (plT bh)).2.2 ⟨#[]⟩ := by
  have hlo : ∃ y, Iv y y ∧ meetLo (plT al) (plT bl_) = plT y ∧ posF y = max (posF al) (posF bl_) := by
    unfold meetLo
    rw [lessT_pos i.low j.low]
    by_cases h : posF al < posF bl_
    · rw [decide_eq_true h, if_pos rfl]; exact ⟨bl_, j.low, rfl, by omega⟩
    · rw [decide_eq_false h, if_neg Bool.false_ne_true]; exact ⟨al, i.low, rfl, by omega⟩
  have hhi : ∃ x, Iv x x ∧ meetHi (plT ah) (plT bh) = plT x ∧ posF x = min (posF ah) (posF bh) := by
    unfold meetHi
    rw [lessT_pos j i]
    by_cases h : posF bh < posF ah
    · rw [decide_eq_true h, if_pos rfl]; exact ⟨bh, j.high, rfl, by omega⟩
    · rw [decide_eq_false h, if_neg Bool.false_ne_true]; exact ⟨ah, i.high, rfl, by omega⟩
  obtain ⟨y, iy, ey, py⟩ := hlo
  obtain ⟨x, ix, ex, px⟩ := hhi
  have fu : FR (fmax al bl_) (posF y) := by rw [py]; exact i.f1.mx j.f1
  have fv : FR (fmin ah bh) (posF x) := by rw [px]; exact i.f2.mn j.f2
  have eu := iy.word fu
  have ev := ix.word fv
  have ho : FloatKind.f64.format.order (fmax al bl_) (fmin ah bh) = some (compare (kw y) (kw x)) := by
    rw [eu, ev]; exact order_kw iy.f1 ix.f1
  have hk := kw_lt ix.f1 iy.f1 ix.q1 iy.q1
  unfold meetT
  rw [ey, ex, lessT_pos ix iy]
  by_cases h : posF x < posF y
  · rw [decide_eq_true h, if_pos rfl]
    have hg : compare (kw y) (kw x) = .gt := Int.compare_eq_gt.2 (hk.2 h)
    rw [hg] at ho
    exact Or.inr (Or.inr (Or.inl ⟨rfl, (fun w hS => meetF_none A al ah bl_ bh _ _ _ _ w hS i.f1 i.f2 j.f1 j.f2 ho)⟩))
  · rw [decide_eq_false h, if_neg Bool.false_ne_true, aroundN_posV, iy.v1, ix.v1, box2 iy ix]
    refine Or.inr (Or.inr (Or.inl ⟨rfl, (fun w _ => ?_)⟩))
    have hm := meetF_some A al ah bl_ bh _ _ _ _ _ w i.f1 i.f2 j.f1 j.f2 ho (fun hc => h (hk.1 (Int.compare_eq_gt.1 hc)))
    rw [eu, ev] at hm
    exact hm

theorem case_add (A : Nat → Addr) {al ah bl_ bh : Nat} (i : Iv al ah) (j : Iv bl_ bh) (r : Nat × Nat × Nat × ByteArray) (hr : r = nameT (aroundN (sumT (plT al) (plT bl_)) (sumT (plT ah) (plT bh))) ⟨#[43]⟩) : OpCase A 3 al ah bl_ bh r.1 r.2.1 r.2.2.1 r.2.2.2 := by
  obtain ⟨d1, u1, e1, g1⟩ := sum_plain i.lt1 j.lt1 i.z1 i.p1 j.p1
  obtain ⟨d2, u2, e2, g2⟩ := sum_plain i.lt2 j.lt2 i.z2 i.p2 j.p2
  rw [aroundN_posV, nameT_boxP] at hr
  subst hr
  exact Or.inr (Or.inr (Or.inr (Or.inl ⟨rfl, (fun w hS => addF_any A al ah bl_ bh d1 u1 d2 u2 _ _ w hS g1 g2 e1.1 e2.2)⟩)))

theorem case_sub (A : Nat → Addr) {al ah bl_ bh : Nat} (i : Iv al ah) (j : Iv bl_ bh) (r : Nat × Nat × Nat × ByteArray) (hr : r = nameT (aroundN (sumT (plT al) (negT (plT bh))) (sumT (plT ah) (negT (plT bl_)))) ⟨#[45]⟩) : OpCase A 4 al ah bl_ bh r.1 r.2.1 r.2.2.1 r.2.2.2 := by
  obtain ⟨d1, u1, e1, g1⟩ := sum_plain i.lt1 (negW_lt j.lt2) i.z1 i.p1 (plain_neg j.lt2 j.p2)
  obtain ⟨d2, u2, e2, g2⟩ := sum_plain i.lt2 (negW_lt j.lt1) i.z2 i.p2 (plain_neg j.lt1 j.p1)
  rw [aroundN_posV, nameT_boxP] at hr
  subst hr
  exact Or.inr (Or.inr (Or.inr (Or.inr (Or.inl ⟨rfl, (fun w hS => subF_any A al ah bl_ bh d1 u1 d2 u2 _ _ w hS g1 g2 e1.1 e2.2)⟩))))

theorem case_mul (A : Nat → Addr) {al ah bl_ bh : Nat} (i : Iv al ah) (j : Iv bl_ bh) (r : Nat × Nat × Nat × ByteArray) (hr : r = nameT (spanT (prodN (plT al) (plT bl_)) (prodN (plT al) (plT bh)) (prodN (plT ah) (plT bl_)) (prodN (plT ah) (plT bh))) ⟨#[42]⟩) : OpCase A 5 al ah bl_ bh r.1 r.2.1 r.2.2.1 r.2.2.2 := by
  obtain ⟨d1, u1, e1, g1⟩ := prod_plain i.lt1 j.lt1 i.p1 j.p1
  obtain ⟨d2, u2, e2, g2⟩ := prod_plain i.lt1 j.lt2 i.p1 j.p2
  obtain ⟨d3, u3, e3, g3⟩ := prod_plain i.lt2 j.lt1 i.p2 j.p1
  obtain ⟨d4, u4, e4, g4⟩ := prod_plain i.lt2 j.lt2 i.p2 j.p2
  rw [span_posV, nameT_boxP] at hr
  subst hr
  have f1 := e1.1.mn e2.1
  have f2 := f1.mn e3.1
  have f3 := f2.mn e4.1
  have k1 := e1.2.mx e2.2
  have k2 := k1.mx e3.2
  have k3 := k2.mx e4.2
  exact Or.inr (Or.inr (Or.inr (Or.inr (Or.inr (Or.inl ⟨rfl, (fun w hS => mulF_any A al ah bl_ bh _ _ _ _ w hS (fun w => corners_mul al ah bl_ bh d1 u1 d2 u2 d3 u3 d4 u4 _ _ _ _ _ _ w (fun w ts t => run_min_float w ts t e1.1 e2.1) (fun w ts t => run_min_float w ts t f1 e3.1) (fun w ts t => run_min_float w ts t f2 e4.1) (fun w ts t => run_max_float w ts t e1.2 e2.2) (fun w ts t => run_max_float w ts t k1 e3.2) (fun w ts t => run_max_float w ts t k2 e4.2) g1 g2 g3 g4) f3 k3)⟩)))))

theorem case_div (A : Nat → Addr) {al ah bl_ bh : Nat} (i : Iv al ah) (j : Iv bl_ bh) (r : Nat × Nat × Nat × ByteArray) (hr : r = if holdsT (plT bl_) (plT bh) = true then (0, 0, 4, ⟨#[47]⟩) else nameT (spanT (quoN (plT al) (plT bl_)) (quoN (plT al) (plT bh)) (quoN (plT ah) (plT bl_)) (quoN (plT ah) (plT bh))) ⟨#[47]⟩) : OpCase A 6 al ah bl_ bh r.1 r.2.1 r.2.2.1 r.2.2.2 := by
  obtain ⟨o1, ho1, hl1, hg1⟩ := sgn_order j
  obtain ⟨o2, ho2, hl2, hg2⟩ := sgn_order j.high
  have hh : (o1 != .gt && o2 != .lt) = holdsT (plT bl_) (plT bh) := by
    have x1 : (o1 != .gt) = decide (sgnI (plT bl_).1 (plT bl_).2.1 ≤ 0) := by
      by_cases h : 0 < sgnI (plT bl_).1 (plT bl_).2.1
      · rw [hg1.2 h, decide_eq_false (by omega)]; rfl
      · rw [decide_eq_true (show sgnI (plT bl_).1 (plT bl_).2.1 ≤ 0 by omega)]
        cases o1 with
        | lt => rfl
        | eq => rfl
        | gt => exact absurd (hg1.1 rfl) h
    have x2 : (o2 != .lt) = decide (0 ≤ sgnI (plT bh).1 (plT bh).2.1) := by
      by_cases h : sgnI (plT bh).1 (plT bh).2.1 < 0
      · rw [hl2.2 h, decide_eq_false (by omega)]; rfl
      · rw [decide_eq_true (show 0 ≤ sgnI (plT bh).1 (plT bh).2.1 by omega)]
        cases o2 with
        | lt => exact absurd (hl2.1 rfl) h
        | eq => rfl
        | gt => rfl
    rw [x1, x2]; rfl
  cases hz : holdsT (plT bl_) (plT bh)
  · rw [hz] at hh hr
    rw [if_neg Bool.false_ne_true] at hr
    obtain ⟨n1, n2⟩ := iv_ne j hz
    obtain ⟨d1, u1, e1, g1⟩ := quo_plain i.lt1 j.lt1 i.p1 j.p1 n1
    obtain ⟨d2, u2, e2, g2⟩ := quo_plain i.lt1 j.lt2 i.p1 j.p2 n2
    obtain ⟨d3, u3, e3, g3⟩ := quo_plain i.lt2 j.lt1 i.p2 j.p1 n1
    obtain ⟨d4, u4, e4, g4⟩ := quo_plain i.lt2 j.lt2 i.p2 j.p2 n2
    rw [span_posV, nameT_boxP] at hr
    subst hr
    have f1 := e1.1.mn e2.1
    have f2 := f1.mn e3.1
    have f3 := f2.mn e4.1
    have k1 := e1.2.mx e2.2
    have k2 := k1.mx e3.2
    have k3 := k2.mx e4.2
    exact Or.inr (Or.inr (Or.inr (Or.inr (Or.inr (Or.inr (Or.inl ⟨rfl, (fun w hS => divF_any A al ah bl_ bh _ _ _ _ o1 o2 w hS ho1 ho2 hh (fun w => corners_quo al ah bl_ bh d1 u1 d2 u2 d3 u3 d4 u4 _ _ _ _ _ _ w (fun w ts t => run_min_float w ts t e1.1 e2.1) (fun w ts t => run_min_float w ts t f1 e3.1) (fun w ts t => run_min_float w ts t f2 e4.1) (fun w ts t => run_max_float w ts t e1.2 e2.2) (fun w ts t => run_max_float w ts t k1 e3.2) (fun w ts t => run_max_float w ts t k2 e4.2) g1 g2 g3 g4) f3 k3)⟩))))))
  · rw [hz] at hh hr
    rw [if_pos rfl] at hr
    subst hr
    exact Or.inr (Or.inr (Or.inr (Or.inr (Or.inr (Or.inr (Or.inl ⟨rfl, (fun w hS => divF_zero A al ah bl_ bh o1 o2 w hS ho1 ho2 hh)⟩))))))

theorem case_sqrt (A : Nat → Addr) {al ah bl_ bh : Nat} (i : Iv al ah) (r : Nat × Nat × Nat × ByteArray) (hr : r = if sgnI (plT al).1 (plT al).2.1 < 0 then (0, 0, 5, ⟨#[115, 113, 114, 116]⟩) else nameT (aroundN (rootN (plT al)) (rootN (plT ah))) ⟨#[115, 113, 114, 116]⟩) : OpCase A 7 al ah bl_ bh r.1 r.2.1 r.2.2.1 r.2.2.2 := by
  obtain ⟨o1, ho1, hl1, hg1⟩ := sgn_order i
  by_cases hs : sgnI (plT al).1 (plT al).2.1 < 0
  · rw [if_pos hs] at hr
    rw [hl1.2 hs] at ho1
    subst hr
    exact Or.inr (Or.inr (Or.inr (Or.inr (Or.inr (Or.inr (Or.inr (Or.inl ⟨rfl, (fun w hS => sqrtF_neg A al ah w hS ho1)⟩)))))))
  · rw [if_neg hs] at hr
    have hs2 : ¬ sgnI (plT ah).1 (plT ah).2.1 < 0 := by
      have a := (sgn_pos (plT al) 1).1
      have b := (sgn_pos (plT ah) 1).1
      rw [i.v1 1] at a
      rw [i.v2 1] at b
      have := i.le
      omega
    obtain ⟨d1, u1, e1, g1⟩ := root_plain i.lt1 i.z1 i.p1 (plT_pos i hs)
    obtain ⟨d2, u2, e2, g2⟩ := root_plain i.lt2 i.z2 i.p2 (plT_pos i.high hs2)
    rw [aroundN_posV, nameT_boxP] at hr
    subst hr
    exact Or.inr (Or.inr (Or.inr (Or.inr (Or.inr (Or.inr (Or.inr (Or.inl ⟨rfl, (fun w hS => sqrtF_any2 A al ah d1 u1 d2 u2 o1 _ _ w hS ho1 (fun hc => hs (hl1.1 hc)) g1 g2 e1.1 e2.2)⟩)))))))

theorem opCase_any (A : Nat → Addr) (k : Int) {al ah bl_ bh : Nat} (i : Iv al ah) (j : Iv bl_ bh) (r : Nat × Nat × Nat × ByteArray) (hr : r = refOpN k (plT al) (plT ah) (plT bl_) (plT bh)) : OpCase A k al ah bl_ bh r.1 r.2.1 r.2.2.1 r.2.2.2 := by
  unfold refOpN at hr
  by_cases k0 : k = 0
  · subst k0; rw [if_pos rfl] at hr; subst hr; exact case_neg A i
  rw [if_neg k0] at hr
  by_cases k1 : k = 1
  · subst k1; rw [if_pos rfl] at hr; subst hr; exact case_hull A i j
  rw [if_neg k1] at hr
  by_cases k2 : k = 2
  · subst k2; rw [if_pos rfl] at hr; subst hr; exact case_meet A i j
  rw [if_neg k2] at hr
  by_cases k3 : k = 3
  · subst k3; rw [if_pos rfl] at hr; exact case_add A i j r hr
  rw [if_neg k3] at hr
  by_cases k4 : k = 4
  · subst k4; rw [if_pos rfl] at hr; exact case_sub A i j r hr
  rw [if_neg k4] at hr
  by_cases k5 : k = 5
  · subst k5; rw [if_pos rfl] at hr; exact case_mul A i j r hr
  rw [if_neg k5] at hr
  by_cases k6 : k = 6
  · subst k6; rw [if_pos rfl] at hr; exact case_div A i j r hr
  rw [if_neg k6] at hr
  by_cases k7 : k = 7
  · subst k7; rw [if_pos rfl] at hr; exact case_sqrt A i r hr
  rw [if_neg k7, aroundN_posV, i.v1, i.v2, i.box] at hr
  subst hr
  exact Or.inr (Or.inr (Or.inr (Or.inr (Or.inr (Or.inr (Or.inr (Or.inr (⟨k0, k1, k2, k3, k4, k5, k6, k7, rfl, rfl, rfl, rfl⟩))))))))

end Go.Proofs.YtonhpkigoplmaaaGreatDoor
namespace Go.Proofs.YtonhpkigoplmaaaGreatDoor
open Go.RowKit Go.Extern Ieee

theorem posV_le (x : Bool × Nat × Int) : posV x (-1) ≤ posV x 1 := by
  obtain ⟨s, n, e⟩ := x
  unfold posV
  simp only
  by_cases h0 : n = 0
  · rw [if_pos h0, if_pos h0]; exact Int.le_refl _
  · rw [if_neg h0, if_neg h0]
    have h1 : endR s n e (-1) = rung n e + if s && inex n then 1 else 0 := by unfold endR; rw [offS_down]
    have h2 : endR s n e 1 = rung n e + if (!s) && inex n then 1 else 0 := by unfold endR; rw [offS_up]
    unfold sgI
    cases s
    · rw [if_neg Bool.false_ne_true, if_neg Bool.false_ne_true]
      apply clampR_mono
      rw [h1, h2]
      simp only [Bool.false_and, Bool.false_eq_true, if_false]
      split <;> omega
    · rw [if_pos rfl, if_pos rfl]
      have : clampR (endR true n e 1) ≤ clampR (endR true n e (-1)) := by
        apply clampR_mono
        rw [h1, h2]
        simp only [Bool.not_true, Bool.false_and, Bool.false_eq_true, if_false]
        split <;> omega
      omega

theorem fr_wdP {x : Bool × Nat × Int} {way : Int} (h : plP (posV x way) = true) : FR (wdP (posV x way)) (posV x way) := by
  by_cases h0 : x.2.1 = 0
  · have : posV x way = 0 := by unfold posV; rw [if_pos h0]
    rw [this, wdP_zero]; exact FR_zero
  · have hp : posV x way = sgI x.1 (clampR (endR x.1 x.2.1 x.2.2 way)) := by unfold posV; rw [if_neg h0]
    have h' := h
    rw [hp] at h'
    obtain ⟨a, b, c⟩ := plP_sg x.1 h'
    have hw : wdP (posV x way) = wd x.1 (endR x.1 x.2.1 x.2.2 way).toNat := by rw [hp, c, wdP_sg x.1 (by omega)]
    rw [hw]
    exact FR_end x.1 way h0 (by omega) (by omega)

theorem iv_wdP {x y : Bool × Nat × Int} {wx wy : Int} (h1 : plP (posV x wx) = true) (h2 : plP (posV y wy) = true) (hle : posV x wx ≤ posV y wy) : Iv (wdP (posV x wx)) (wdP (posV y wy)) := by
  have f1 := fr_wdP h1
  have f2 := fr_wdP h2
  exact ⟨f1.lt, f2.lt, f1.nz, f2.nz, plT_some (by rw [f1.plain]; exact h1), plT_some (by rw [f2.plain]; exact h2), by rw [f1.pos, f2.pos]; exact hle⟩

theorem make_iv {l h : Nat} (i : Iv l h) : makeN l h = (l, h, 0) := by
  have e1 : posW l = l := by
    unfold posW
    by_cases hz : l % 9223372036854775808 = 0
    · rw [if_pos hz]; have := i.lt1; have := i.z1; omega
    · rw [if_neg hz]
  have e2 : posW h = h := by
    unfold posW
    by_cases hz : h % 9223372036854775808 = 0
    · rw [if_pos hz]; have := i.lt2; have := i.z2; omega
    · rw [if_neg hz]
  have hl : lessW h l = false := by
    show lessT (plT h) (plT l) = false
    rw [lessT_pos i i.low]
    exact decide_eq_false (by have := i.le; omega)
  unfold makeN
  rw [if_neg (by rw [i.p1, i.p2]; simp), hl, if_neg Bool.false_ne_true, e1, e2]

/-- The float below, above a whole number. -/
def fl (n : Int) : Nat := wdP (posV (wholeN n) (-1))
def fh (n : Int) : Nat := wdP (posV (wholeN n) 1)

theorem plP_whole {n : Int} (h : n.natAbs ≤ 1152921504606846976) (way : Int) : plP (posV (wholeN n) way) = true := by
  by_cases h0 : n.natAbs = 0
  · have : posV (wholeN n) way = 0 := by unfold posV wholeN; rw [if_pos h0]
    rw [this]; rfl
  · have hp : posV (wholeN n) way = sgI (decide (n < 0)) (clampR (endR (decide (n < 0)) n.natAbs 0 way)) := by unfold posV wholeN; rw [if_neg h0]
    rw [hp]
    have hb : bl n.natAbs ≤ 61 := bl_le (Nat.lt_of_le_of_lt h (by decide))
    have hb1 := bl_pos (n := n.natAbs) (by omega)
    have rb := rung_bounds 0 h0
    have eb := endR_bounds (decide (n < 0)) (n := n.natAbs) 0 way
    generalize endR (decide (n < 0)) n.natAbs 0 way = r at *
    have hc : clampR r = r := by have := clampR_cases r; omega
    rw [hc]
    unfold plP sgI
    rw [decide_eq_true_eq]
    right
    cases decide (n < 0)
    · rw [if_neg Bool.false_ne_true]; omega
    · rw [if_pos rfl]; omega

theorem iv_whole {n : Int} (h : n.natAbs ≤ 1152921504606846976) : Iv (fl n) (fh n) := iv_wdP (plP_whole h _) (plP_whole h _) (posV_le _)

theorem exact_whole {n : Int} (h : n.natAbs ≤ 1152921504606846976) : refExactN 2 n = (fl n, fh n, 0) := by
  unfold refExactN
  rw [if_pos (Or.inr rfl), aroundN_posV, boxP_plain (plP_whole h _) (plP_whole h _)]
  rfl

theorem same_whole {n : Int} (h : n.natAbs < 9007199254740992) : fh n = fl n ∧ posV (wholeN n) 1 = posV (wholeN n) (-1) := by
  have : posV (wholeN n) 1 = posV (wholeN n) (-1) := by
    have hi : inex n.natAbs = false := inex_small (bl_le (by rw [p53]; exact h))
    unfold posV wholeN endR
    simp only [hi, Bool.and_false]
  exact ⟨by unfold fh fl; rw [this], this⟩

/-- A small whole number's float means it. -/
theorem means_fl {n : Int} (h : n.natAbs < 9007199254740992) : MeansT 0 n (plT (fl n)) := by
  have h' : n.natAbs ≤ 1152921504606846976 := by omega
  have h1 : leV (plT (fl n)) (wholeN n) := encl_low (plP_whole h' _)
  have h2 : leV (wholeN n) (plT (fh n)) := encl_high (plP_whole h' _)
  rw [(same_whole h).1] at h2
  exact means_anti (means_self 0 n) h2 h1

theorem pos_whole {n : Int} {x : Bool × Nat × Int} (h : MeansT 0 n x) {way : Int} (hw : way = -1 ∨ way = 1) : posV x way = posV (wholeN n) way := posV_means h way hw

theorem means_prod {a b : Int} {x y : Bool × Nat × Int} (hx : MeansT 0 a x) (hy : MeansT 0 b y) : MeansT 0 (a * b) (prodN x y) := by
  have h : Means (0 + 0) (a * b) (x.1 ^^ y.1) (x.2.1 * y.2.1) (x.2.2 + y.2.2) := mul_means hx hy
  by_cases h0 : x.2.1 * y.2.1 = 0
  · have hz : a * b = 0 := by
      have := h (min 0 (x.2.2 + y.2.2)) (by omega) (by omega)
      rw [h0, Nat.zero_mul] at this
      have hp := Nat.two_pow_pos ((0 : Int) + 0 - min 0 (x.2.2 + y.2.2)).toNat
      have e0 : sg (x.1 ^^ y.1) 0 = 0 := by unfold sg; split <;> rfl
      rw [e0] at this
      rcases Int.mul_eq_zero.1 this.symm with h | h
      · exact h
      · omega
    rw [hz]
    exact means_zero2 (x := prodN x y) h0 0
  · have : prodN x y = ((x.1 ^^ y.1), x.2.1 * y.2.1, x.2.2 + y.2.2) := by
      unfold prodN
      rw [decide_eq_true h0, Bool.and_true]
    rw [this]
    exact h

end Go.Proofs.YtonhpkigoplmaaaGreatDoor
namespace Go.Proofs.YtonhpkigoplmaaaGreatDoor
open Go.RowKit Go.Extern Ieee

end Go.Proofs.YtonhpkigoplmaaaGreatDoor
namespace Go.Proofs.YtonhpkigoplmaaaGreatDoor
open Go.RowKit Go.Extern Ieee

theorem fl_zero : fl 0 = 0 := rfl
theorem pick_min (x y : Bool × Nat × Int) : ∃ z, (z = x ∨ z = y) ∧ min (posV x (-1)) (posV y (-1)) = posV z (-1) := by
  rcases Int.le_total (posV x (-1)) (posV y (-1)) with h | h
  · exact ⟨x, .inl rfl, by omega⟩
  · exact ⟨y, .inr rfl, by omega⟩
theorem pick_max (x y : Bool × Nat × Int) : ∃ z, (z = x ∨ z = y) ∧ max (posV x 1) (posV y 1) = posV z 1 := by
  rcases Int.le_total (posV x 1) (posV y 1) with h | h
  · exact ⟨y, .inr rfl, by omega⟩
  · exact ⟨x, .inl rfl, by omega⟩

end Go.Proofs.YtonhpkigoplmaaaGreatDoor
namespace Go.Proofs.YtonhpkigoplmaaaGreatDoor
open Go.RowKit Go.Extern Ieee

/-- A product, then a sum. -/
def hstep (x1 x2 : Bool × Nat × Int) (q : Nat) (r : Nat × Nat × Nat × ByteArray) : Nat × Nat × Nat × ByteArray :=
  if r.2.2.1 ≠ 0 then r
  else if (refOpN 5 (plT r.1) (plT r.2.1) x1 x2).2.2.1 ≠ 0 then refOpN 5 (plT r.1) (plT r.2.1) x1 x2
  else refOpN 3 (plT (refOpN 5 (plT r.1) (plT r.2.1) x1 x2).1) (plT (refOpN 5 (plT r.1) (plT r.2.1) x1 x2).2.1) (plT q) (plT q)

/-- From the last number on, so many steps. -/
def hornN (ps : Nat → Nat) (n : Nat) (x1 x2 : Bool × Nat × Int) : Nat → Nat × Nat × Nat × ByteArray
  | 0 => (posW (ps (n - 1)), posW (ps (n - 1)), 0, ⟨#[]⟩)
  | j + 1 => hstep x1 x2 (posW (ps (n - 2 - j))) (hornN ps n x1 x2 j)

/-- The first fault of a list of numbers. -/
def rightN (ps : Nat → Nat) (n : Nat) : Nat :=
  if n < 1 ∨ 9 < n then 8 else if (List.range n).all (fun i => (plainN (ps i)).isSome) then 0 else 1

def evalN (ps : Nat → Nat) (n : Nat) (x1 x2 : Bool × Nat × Int) : Nat × Nat × Nat × ByteArray :=
  if rightN ps n ≠ 0 then (0, 0, rightN ps n, ⟨#[]⟩) else hornN ps n x1 x2 (n - 1)

theorem boxP_code {p q : Int} (h : (boxP p q).2.2 = 0) : plP p = true ∧ plP q = true := by
  unfold boxP at h
  split at h
  · assumption
  · cases h

theorem name_code {p q : Int} {s : ByteArray} (h : (nameT (boxP p q) s).2.2.1 = 0) : plP p = true ∧ plP q = true ∧ nameT (boxP p q) s = (wdP p, wdP q, 0, ⟨#[]⟩) := by
  have hc : (boxP p q).2.2 = 0 := by
    unfold nameT at h
    split at h
    · assumption
    · exact h
  obtain ⟨h1, h2⟩ := boxP_code hc
  refine ⟨h1, h2, ?_⟩
  rw [boxP_plain h1 h2]
  rfl

theorem name_zero (p q : Int) (s : ByteArray) (h : (nameT (boxP p q) s).2.2.1 ≠ 0) : (nameT (boxP p q) s).1 = 0 ∧ (nameT (boxP p q) s).2.1 = 0 := by
  unfold nameT at h ⊢
  split at h
  · simp at h
  · rename_i h'
    rw [if_neg h']
    exact ⟨rfl, rfl⟩

theorem pick_min4 (a b c d : Bool × Nat × Int) : ∃ z, min (min (min (posV a (-1)) (posV b (-1))) (posV c (-1))) (posV d (-1)) = posV z (-1) := by
  obtain ⟨u, _, e1⟩ := pick_min a b
  obtain ⟨v, _, e2⟩ := pick_min u c
  obtain ⟨z, _, e3⟩ := pick_min v d
  exact ⟨z, by rw [e1, e2, e3]⟩
theorem pick_max4 (a b c d : Bool × Nat × Int) : ∃ z, max (max (max (posV a 1) (posV b 1)) (posV c 1)) (posV d 1) = posV z 1 := by
  obtain ⟨u, _, e1⟩ := pick_max a b
  obtain ⟨v, _, e2⟩ := pick_max u c
  obtain ⟨z, _, e3⟩ := pick_max v d
  exact ⟨z, by rw [e1, e2, e3]⟩

theorem iv_mul {a1 a2 b1 b2 : Bool × Nat × Int} (h : (refOpN 5 a1 a2 b1 b2).2.2.1 = 0) : Iv (refOpN 5 a1 a2 b1 b2).1 (refOpN 5 a1 a2 b1 b2).2.1 := by
  have e : refOpN 5 a1 a2 b1 b2 = nameT (spanT (prodN a1 b1) (prodN a1 b2) (prodN a2 b1) (prodN a2 b2)) ⟨#[42]⟩ := rfl
  rw [e, span_posV] at h ⊢
  obtain ⟨u, eu⟩ := pick_min4 (prodN a1 b1) (prodN a1 b2) (prodN a2 b1) (prodN a2 b2)
  obtain ⟨v, ev⟩ := pick_max4 (prodN a1 b1) (prodN a1 b2) (prodN a2 b1) (prodN a2 b2)
  have hle : posV u (-1) ≤ posV v 1 := by
    rw [← eu, ← ev]
    have := posV_le (prodN a1 b1)
    omega
  rw [eu, ev] at h ⊢
  obtain ⟨h1, h2, h3⟩ := name_code h
  rw [h3]
  exact iv_wdP h1 h2 hle

theorem iv_leV {l h : Nat} (i : Iv l h) : leV (plT l) (plT h) := by
  refine (lessT_le (plT h) (plT l)).2 ?_
  rw [lessT_pos i i.low]
  exact decide_eq_false (by have := i.le; omega)

theorem leV_means2 {x y : Bool × Nat × Int} (h : leV x y) {e : Int} (h1 : e ≤ x.2.2) (h2 : e ≤ y.2.2) : sg x.1 (x.2.1 * 2 ^ (x.2.2 - e).toNat) ≤ sg y.1 (y.2.1 * 2 ^ (y.2.2 - e).toNat) := by
  unfold leV lvA lvB at h
  have hm := Int.mul_le_mul_of_nonneg_right h (Int.natCast_nonneg (2 ^ (min x.2.2 y.2.2 - e).toNat))
  rw [sg_mul, sg_mul, Nat.mul_assoc, Nat.mul_assoc, ← Nat.pow_add, ← Nat.pow_add] at hm
  rwa [show (x.2.2 - min x.2.2 y.2.2).toNat + (min x.2.2 y.2.2 - e).toNat = (x.2.2 - e).toNat by omega, show (y.2.2 - min x.2.2 y.2.2).toNat + (min x.2.2 y.2.2 - e).toNat = (y.2.2 - e).toNat by omega] at hm

theorem sum_mono {a1 a2 b1 b2 : Bool × Nat × Int} (ha : leV a1 a2) (hb : leV b1 b2) : leV (sumT a1 b1) (sumT a2 b2) := by
  have e1 : min (min a1.2.2 a2.2.2) (min b1.2.2 b2.2.2) ≤ a1.2.2 := by omega
  have e2 : min (min a1.2.2 a2.2.2) (min b1.2.2 b2.2.2) ≤ a2.2.2 := by omega
  have e3 : min (min a1.2.2 a2.2.2) (min b1.2.2 b2.2.2) ≤ b1.2.2 := by omega
  have e4 : min (min a1.2.2 a2.2.2) (min b1.2.2 b2.2.2) ≤ b2.2.2 := by omega
  have m1 := means_low2 a1 e1
  have m2 := means_low2 a2 e2
  have m3 := means_low2 b1 e3
  have m4 := means_low2 b2 e4
  have l1 := leV_means2 ha e1 e2
  have l2 := leV_means2 hb e3 e4
  exact leV_means (sumN_means m1 m3) (sumN_means m2 m4) (by omega)

theorem iv_add {a1 a2 b1 b2 : Bool × Nat × Int} (ha : leV a1 a2) (hb : leV b1 b2) (h : (refOpN 3 a1 a2 b1 b2).2.2.1 = 0) : Iv (refOpN 3 a1 a2 b1 b2).1 (refOpN 3 a1 a2 b1 b2).2.1 := by
  have e : refOpN 3 a1 a2 b1 b2 = nameT (aroundN (sumT a1 b1) (sumT a2 b2)) ⟨#[43]⟩ := rfl
  rw [e, aroundN_posV] at h ⊢
  have hle : posV (sumT a1 b1) (-1) ≤ posV (sumT a2 b2) 1 := Int.le_trans (posV_mono (-1) (.inl rfl) (sum_mono ha hb)) (posV_le _)
  obtain ⟨h1, h2, h3⟩ := name_code h
  rw [h3]
  exact iv_wdP h1 h2 hle

theorem op5_zero {a1 a2 b1 b2 : Bool × Nat × Int} (h : (refOpN 5 a1 a2 b1 b2).2.2.1 ≠ 0) : (refOpN 5 a1 a2 b1 b2).1 = 0 ∧ (refOpN 5 a1 a2 b1 b2).2.1 = 0 := by
  have e : refOpN 5 a1 a2 b1 b2 = nameT (spanT (prodN a1 b1) (prodN a1 b2) (prodN a2 b1) (prodN a2 b2)) ⟨#[42]⟩ := rfl
  rw [e, span_posV] at h ⊢
  exact name_zero _ _ _ h
theorem op3_zero {a1 a2 b1 b2 : Bool × Nat × Int} (h : (refOpN 3 a1 a2 b1 b2).2.2.1 ≠ 0) : (refOpN 3 a1 a2 b1 b2).1 = 0 ∧ (refOpN 3 a1 a2 b1 b2).2.1 = 0 := by
  have e : refOpN 3 a1 a2 b1 b2 = nameT (aroundN (sumT a1 b1) (sumT a2 b2)) ⟨#[43]⟩ := rfl
  rw [e, aroundN_posV] at h ⊢
  exact name_zero _ _ _ h

/-- A point. -/
theorem iv_point {b : Nat} (hb : b < 18446744073709551616) (hp : (plainN b).isSome = true) : Iv (posW b) (posW b) := (posW_iv hb (plT_some hp)).1

theorem right_plain {ps : Nat → Nat} {n : Nat} (h : rightN ps n = 0) : 1 ≤ n ∧ n ≤ 9 ∧ ∀ i, i < n → (plainN (ps i)).isSome = true := by
  unfold rightN at h
  split at h
  · cases h
  · split at h
    · rename_i h1 h2
      refine ⟨by omega, by omega, fun i hi => ?_⟩
      rw [List.all_eq_true] at h2
      exact h2 i (List.mem_range.2 hi)
    · cases h

/-- While there is no error the ends are an interval's; with an error they are 0. -/
theorem horn_iv {ps : Nat → Nat} {n : Nat} {x1 x2 : Bool × Nat × Int} (hr : rightN ps n = 0) (hb : ∀ i, i < n → ps i < 18446744073709551616) : ∀ j, j < n → ((hornN ps n x1 x2 j).2.2.1 = 0 → Iv (hornN ps n x1 x2 j).1 (hornN ps n x1 x2 j).2.1) ∧ ((hornN ps n x1 x2 j).2.2.1 ≠ 0 → (hornN ps n x1 x2 j).1 = 0 ∧ (hornN ps n x1 x2 j).2.1 = 0)
  | 0, hj => by
    obtain ⟨h1, h2, h3⟩ := right_plain hr
    exact ⟨fun _ => iv_point (hb _ (by omega)) (h3 _ (by omega)), fun h => absurd rfl h⟩
  | j + 1, hj => by
    obtain ⟨h1, h2, h3⟩ := right_plain hr
    obtain ⟨i1, i2⟩ := horn_iv (x1 := x1) (x2 := x2) hr hb j (by omega)
    have ip := iv_point (hb (n - 2 - j) (by omega)) (h3 (n - 2 - j) (by omega))
    have e : hornN ps n x1 x2 (j + 1) = hstep x1 x2 (posW (ps (n - 2 - j))) (hornN ps n x1 x2 j) := rfl
    rw [e]
    generalize hornN ps n x1 x2 j = r at *
    unfold hstep
    by_cases hc : r.2.2.1 ≠ 0
    · rw [if_pos hc]; exact ⟨i1, i2⟩
    · rw [if_neg hc]
      by_cases hm : (refOpN 5 (plT r.1) (plT r.2.1) x1 x2).2.2.1 ≠ 0
      · rw [if_pos hm]; exact ⟨fun h => absurd h hm, fun h => op5_zero h⟩
      · rw [if_neg hm]
        have im := iv_mul (Decidable.not_not.1 hm)
        exact ⟨fun h => iv_add (iv_leV im) (iv_leV ip) h, fun h => op3_zero h⟩
end Go.Proofs.YtonhpkigoplmaaaGreatDoor
namespace Go.Proofs.YtonhpkigoplmaaaGreatDoor
open Go.RowKit Go.Extern Ieee

/-- Is a piece thrown away? -/
def dropN (ps : Nat → Nat) (n l h : Nat) : Bool :=
  decide ((evalN ps n (plT l) (plT h)).2.2.1 = 0) && !holdsT (plT (evalN ps n (plT l) (plT h)).1) (plT (evalN ps n (plT l) (plT h)).2.1)

/-- May a piece be halved? -/
def cutN (l h : Nat) : Bool := (midT l h).2 && (decide (posF l < posF (midT l h).1) && decide (posF (midT l h).1 < posF h))

def pieceN (ps : Nat → Nat) (n : Nat) : Nat → Nat → Nat → List (Nat × Nat)
  | 0, l, h => if dropN ps n l h = true then [] else [(l, h)]
  | d + 1, l, h => if dropN ps n l h = true then [] else if cutN l h = true then pieceN ps n d l (midT l h).1 ++ pieceN ps n d (midT l h).1 h else [(l, h)]

theorem pieceN_len (ps : Nat → Nat) (n : Nat) : ∀ d l h, (pieceN ps n d l h).length ≤ 2 ^ d
  | 0, l, h => by unfold pieceN; split <;> simp
  | d + 1, l, h => by
    unfold pieceN
    have h1 := pieceN_len ps n d l (midT l h).1
    have h2 := pieceN_len ps n d (midT l h).1 h
    have hp := Nat.two_pow_pos d
    rw [Nat.pow_succ]
    split
    · simp
    · split
      · rw [List.length_append]; omega
      · simp; omega

/-- The two halves are intervals. -/
theorem cut_iv {l h : Nat} (i : Iv l h) (hc : cutN l h = true) : Iv l (midT l h).1 ∧ Iv (midT l h).1 h ∧ midW l h = (midT l h).1 := by
  unfold cutN at hc
  rw [Bool.and_eq_true, Bool.and_eq_true, decide_eq_true_eq, decide_eq_true_eq] at hc
  obtain ⟨h1, h2, h3⟩ := hc
  obtain ⟨a, b⟩ := mid_same i
  obtain ⟨e, f⟩ := b h1
  rw [h1] at a
  rw [e] at a f
  have hp := plT_some a
  exact ⟨⟨i.lt1, f.lt, i.z1, f.nz, i.p1, hp, by omega⟩, ⟨f.lt, i.lt2, f.nz, i.z2, hp, i.p2, by omega⟩, e⟩
end Go.Proofs.YtonhpkigoplmaaaGreatDoor
namespace Go.Proofs.YtonhpkigoplmaaaGreatDoor
open Go.RowKit

theorem blk9 {W : World} {g : Nat} {a0 a1 a2 a3 a4 a5 a6 a7 a8 : Value} {t : TypeId} (h : W.heap[g]? = some (.cells #[a0, a1, a2, a3, a4, a5, a6, a7, a8] t (0, 0))) :
    W.cell? ⟨g, 0, none⟩ = some a0 ∧ W.cell? ⟨g, 1, none⟩ = some a1 ∧ W.cell? ⟨g, 2, none⟩ = some a2 ∧ W.cell? ⟨g, 3, none⟩ = some a3 ∧ W.cell? ⟨g, 4, none⟩ = some a4 ∧ W.cell? ⟨g, 5, none⟩ = some a5 ∧ W.cell? ⟨g, 6, none⟩ = some a6 ∧ W.cell? ⟨g, 7, none⟩ = some a7 ∧ W.cell? ⟨g, 8, none⟩ = some a8 :=
  ⟨by simp [World.cell?, h], by simp [World.cell?, h], by simp [World.cell?, h], by simp [World.cell?, h], by simp [World.cell?, h], by simp [World.cell?, h], by simp [World.cell?, h], by simp [World.cell?, h], by simp [World.cell?, h]⟩

end Go.Proofs.YtonhpkigoplmaaaGreatDoor
namespace Go.Proofs.YtonhpkigoplmaaaGreatDoor
open Go.RowKit

/-- A script's steps as they lie in memory. -/
structure Script where
  k : Nat → Int
  a : Nat → Int
  b : Nat → Int
  s : Nat → ByteArray
  xl : Nat → Nat
  xh : Nat → Nat
  yl : Nat → Nat
  yh : Nat → Nat
  po : Nat → Option Addr
  pl : Nat → Nat
  pc : Nat → Nat

/-- n steps lie from an address on. -/
def Script.at (z : Script) (w : World) (g off n : Nat) : Prop :=
  ∀ i, i < n → w.cell? ⟨g, off + i * 9, none⟩ = some (.int .i64 (z.k i)) ∧ w.cell? ⟨g, off + i * 9 + 1, none⟩ = some (.int .i64 (z.a i)) ∧ w.cell? ⟨g, off + i * 9 + 2, none⟩ = some (.int .i64 (z.b i)) ∧ w.cell? ⟨g, off + i * 9 + 3, none⟩ = some (.string (z.s i)) ∧ w.cell? ⟨g, off + i * 9 + 4, none⟩ = some (.int .u64 (z.xl i : Int)) ∧ w.cell? ⟨g, off + i * 9 + 5, none⟩ = some (.int .u64 (z.xh i : Int)) ∧ w.cell? ⟨g, off + i * 9 + 6, none⟩ = some (.int .u64 (z.yl i : Int)) ∧ w.cell? ⟨g, off + i * 9 + 7, none⟩ = some (.int .u64 (z.yh i : Int)) ∧ w.cell? ⟨g, off + i * 9 + 8, none⟩ = some (.slice (z.po i) (z.pl i) (z.pc i))

end Go.Proofs.YtonhpkigoplmaaaGreatDoor
namespace Go.Proofs.YtonhpkigoplmaaaGreatDoor
open Go.RowKit Go.Deep Go.ChangeShapes Go.WideShapes

theorem k_cellsOp : Tryz.prog.cellsOf 31 = 9 := by kernel_rfl
theorem k_cellsBox : Tryz.prog.cellsOf 28 = 2 := by kernel_rfl
theorem k_cells_int : Tryz.prog.cellsOf 3 = 1 := by kernel_rfl
theorem k_cells_u64 : Tryz.prog.cellsOf 26 = 1 := by kernel_rfl
theorem k_cells_str : Tryz.prog.cellsOf 9 = 1 := by kernel_rfl
theorem k_cells_p : Tryz.prog.cellsOf 29 = 1 := by kernel_rfl

section
variable {H : Type} {enc : TypeId × Value → H} {W : World} {base : Nat} {spare : Nat → Bool} {held : Bool}

theorem u64_wf {n : Int} (h : (Lit.int .u64 n).wf = true) : ∃ m : Nat, n = (m : Int) ∧ m < 18446744073709551616 := by
  have hb := bounds_u64 h
  exact ⟨n.toNat, by omega, by omega⟩

theorem box_cells {fuel : Nat} {a b : Value} {x : DataW H × List MemPlace} (h : DataW.trod enc Tryz.prog W base spare held fuel 28 [a, b] = some x) :
    ∃ l u : Nat, a = .int .u64 (l : Int) ∧ b = .int .u64 (u : Int) ∧ l < 18446744073709551616 ∧ u < 18446744073709551616 := by
  obtain ⟨y0, y1, n, _, _, h0, h1⟩ := trod_struct2 Tryz.underlying28 h
  rw [k_cells_u64] at h0 h1
  obtain ⟨p, e0, _, w0⟩ := DataW.trod_int Tryz.underlying26 h0
  obtain ⟨q, e1, _, w1⟩ := DataW.trod_int Tryz.underlying26 h1
  obtain ⟨l, rfl, hl⟩ := u64_wf w0
  obtain ⟨u, rfl, hu⟩ := u64_wf w1
  simp at e0 e1
  exact ⟨l, u, e0, e1, hl, hu⟩

theorem list9 {α : Type} {l : List α} (h : l.length = 9) : ∃ a0 a1 a2 a3 a4 a5 a6 a7 a8, l = [a0, a1, a2, a3, a4, a5, a6, a7, a8] := by
  match l, h with
  | [a0, a1, a2, a3, a4, a5, a6, a7, a8], _ => exact ⟨_, _, _, _, _, _, _, _, _, rfl⟩

/-- One step's cells. -/
theorem op_cells {fuel : Nat} {cs : List Value} {x : DataW H × List MemPlace} (h : DataW.trod enc Tryz.prog W base spare held fuel 31 cs = some x) :
    ∃ (k a b : Int) (s : ByteArray) (xl xh yl yh : Nat) (po : Option Addr) (pl pc : Nat), cs = [.int .i64 k, .int .i64 a, .int .i64 b, .string s, .int .u64 (xl : Int), .int .u64 (xh : Int), .int .u64 (yl : Int), .int .u64 (yh : Int), .slice po pl pc] ∧ xl < 18446744073709551616 ∧ xh < 18446744073709551616 ∧ yl < 18446744073709551616 ∧ yh < 18446744073709551616 ∧ (-9223372036854775808 ≤ a ∧ a < 9223372036854775808) ∧ (-9223372036854775808 ≤ b ∧ b < 9223372036854775808) := by
  obtain ⟨xs, n, _, _, hl, hlen, hf⟩ := DataW.trod_struct Tryz.underlying31 h
  rw [k_cellsOp] at hl
  obtain ⟨a0, a1, a2, a3, a4, a5, a6, a7, a8, rfl⟩ := list9 hl
  have hlen7 : xs.length = 7 := hlen
  have get : ∀ i, i < 7 → ∃ y, xs[i]? = some y := fun i hi => ⟨xs[i]'(by rw [hlen7]; exact hi), List.getElem?_eq_getElem (by rw [hlen7]; exact hi)⟩
  obtain ⟨y0, g0⟩ := get 0 (by omega)
  obtain ⟨y1, g1⟩ := get 1 (by omega)
  obtain ⟨y2, g2⟩ := get 2 (by omega)
  obtain ⟨y3, g3⟩ := get 3 (by omega)
  obtain ⟨y4, g4⟩ := get 4 (by omega)
  obtain ⟨y5, g5⟩ := get 5 (by omega)
  obtain ⟨y6, g6⟩ := get 6 (by omega)
  have f0 : DataW.trod enc Tryz.prog W base spare held n 3 (List.take (Tryz.prog.cellsOf 3) (List.drop 0 [a0, a1, a2, a3, a4, a5, a6, a7, a8])) = some y0 := (hf 0 _ rfl).trans g0
  have f1 : DataW.trod enc Tryz.prog W base spare held n 3 (List.take (Tryz.prog.cellsOf 3) (List.drop 1 [a0, a1, a2, a3, a4, a5, a6, a7, a8])) = some y1 := (hf 1 _ rfl).trans g1
  have f2 : DataW.trod enc Tryz.prog W base spare held n 3 (List.take (Tryz.prog.cellsOf 3) (List.drop 2 [a0, a1, a2, a3, a4, a5, a6, a7, a8])) = some y2 := (hf 2 _ rfl).trans g2
  have f3 : DataW.trod enc Tryz.prog W base spare held n 9 (List.take (Tryz.prog.cellsOf 9) (List.drop 3 [a0, a1, a2, a3, a4, a5, a6, a7, a8])) = some y3 := (hf 3 _ rfl).trans g3
  have f4 : DataW.trod enc Tryz.prog W base spare held n 28 (List.take (Tryz.prog.cellsOf 28) (List.drop 4 [a0, a1, a2, a3, a4, a5, a6, a7, a8])) = some y4 := (hf 4 _ rfl).trans g4
  have f5 : DataW.trod enc Tryz.prog W base spare held n 28 (List.take (Tryz.prog.cellsOf 28) (List.drop 6 [a0, a1, a2, a3, a4, a5, a6, a7, a8])) = some y5 := (hf 5 _ rfl).trans g5
  have f6 : DataW.trod enc Tryz.prog W base spare held n 29 (List.take (Tryz.prog.cellsOf 29) (List.drop 8 [a0, a1, a2, a3, a4, a5, a6, a7, a8])) = some y6 := (hf 6 _ rfl).trans g6
  rw [k_cells_int] at f0 f1 f2
  rw [k_cells_str] at f3
  rw [k_cellsBox] at f4 f5
  rw [k_cells_p] at f6
  obtain ⟨k, e0, -, -⟩ := DataW.trod_int Tryz.underlying3 f0
  obtain ⟨a, e1, -, wa⟩ := DataW.trod_int Tryz.underlying3 f1
  obtain ⟨b, e2, -, wb⟩ := DataW.trod_int Tryz.underlying3 f2
  have ba := bounds_i64 wa
  have bb := bounds_i64 wb
  obtain ⟨s, e3, -, -⟩ := DataW.trod_string Tryz.underlying9 f3
  obtain ⟨xl, xh, e4, e5, b4, b5⟩ := box_cells (show DataW.trod enc Tryz.prog W base spare held n 28 [a4, a5] = some y4 from f4)
  obtain ⟨yl, yh, e6, e7, b6, b7⟩ := box_cells (show DataW.trod enc Tryz.prog W base spare held n 28 [a6, a7] = some y5 from f5)
  obtain ⟨po, pl, pc, e8⟩ := Joins.slice_form Tryz.underlying29 f6
  simp at e0 e1 e2 e3 e8
  subst e0 e1 e2 e3 e4 e5 e6 e7 e8
  exact ⟨_, _, _, _, _, _, _, _, _, _, _, rfl, b4, b5, b6, b7, ⟨by omega, by omega⟩, ⟨by omega, by omega⟩⟩

/-- A script that is read lies as its steps. -/
theorem script_of {fuel : Nat} {v : Value} {d : DataW H} {ps : List MemPlace} (h : DataW.trod enc Tryz.prog W base spare held fuel 22 v.cells.toList = some (d, ps)) (hv : ∃ a len cap, v = .slice a len cap) :
    ∃ (z : Script) (ao : Option Addr) (n c : Nat), v = .slice ao n c ∧ (n = 0 ∨ ∃ g off, ao = some ⟨g, off, none⟩ ∧ g < W.heap.size ∧ z.at W g off n) ∧ (∀ i, i < n → (z.xl i < 18446744073709551616 ∧ z.xh i < 18446744073709551616) ∧ (z.yl i < 18446744073709551616 ∧ z.yh i < 18446744073709551616) ∧ (-9223372036854775808 ≤ z.a i ∧ z.a i < 9223372036854775808) ∧ (-9223372036854775808 ≤ z.b i ∧ z.b i < 9223372036854775808)) ∧
      (d = .nil ∧ n = 0 ∨ ∃ es sp, d = .slice es sp ∧ es.length = n) := by
  obtain ⟨ao, n, c, rfl⟩ := hv
  have hcs : (Value.slice ao n c).cells.toList = [.slice ao n c] := rfl
  rw [hcs] at h
  rcases open_slice Tryz.underlying22 h with ⟨h0, hx⟩ | ⟨a, len, cap, m, f, D, Pl, h0, hb, hl, hm, hmm, hx, hall⟩
  · simp at h0
    obtain ⟨rfl, rfl, rfl⟩ := h0
    simp at hx
    exact ⟨⟨fun _ => 0, fun _ => 0, fun _ => 0, fun _ => ByteArray.empty, fun _ => 0, fun _ => 0, fun _ => 0, fun _ => 0, fun _ => none, fun _ => 0, fun _ => 0⟩, none, 0, 0, rfl, Or.inl rfl, fun i hi => by omega, Or.inl ⟨hx.1, rfl⟩⟩
  · simp at h0
    obtain ⟨rfl, rfl, rfl⟩ := h0
    have hmn : n ≤ m := by rw [hmm]; split <;> omega
    rw [k_cellsOp] at hall
    have hop : ∀ i, i < n → ∃ t : (Int × Int × Int) × ByteArray × (Nat × Nat × Nat × Nat) × (Option Addr × Nat × Nat),
        (W.cell? (a.add (i * 9)) = some (.int .i64 t.1.1) ∧ W.cell? ((a.add (i * 9)).add 1) = some (.int .i64 t.1.2.1) ∧ W.cell? ((a.add (i * 9)).add 2) = some (.int .i64 t.1.2.2) ∧ W.cell? ((a.add (i * 9)).add 3) = some (.string t.2.1) ∧
         W.cell? ((a.add (i * 9)).add 4) = some (.int .u64 (t.2.2.1.1 : Int)) ∧ W.cell? ((a.add (i * 9)).add 5) = some (.int .u64 (t.2.2.1.2.1 : Int)) ∧ W.cell? ((a.add (i * 9)).add 6) = some (.int .u64 (t.2.2.1.2.2.1 : Int)) ∧ W.cell? ((a.add (i * 9)).add 7) = some (.int .u64 (t.2.2.1.2.2.2 : Int)) ∧
         W.cell? ((a.add (i * 9)).add 8) = some (.slice t.2.2.2.1 t.2.2.2.2.1 t.2.2.2.2.2)) ∧
        (t.2.2.1.1 < 18446744073709551616 ∧ t.2.2.1.2.1 < 18446744073709551616) ∧ (t.2.2.1.2.2.1 < 18446744073709551616 ∧ t.2.2.1.2.2.2 < 18446744073709551616) ∧ (-9223372036854775808 ≤ t.1.2.1 ∧ t.1.2.1 < 9223372036854775808) ∧ (-9223372036854775808 ≤ t.1.2.2 ∧ t.1.2.2 < 9223372036854775808) := by
      intro i hi
      obtain ⟨cs', h1, h2⟩ := hall i (by omega)
      obtain ⟨-, -, hc⟩ := World.cells?_some h1
      obtain ⟨k, a', b', s, xl, xh, yl, yh, po, pl, pc, rfl, q1, q2, q3, q4, q5⟩ := op_cells h2
      have e0 : (a.add (i * 9)).add 0 = a.add (i * 9) := by simp [Addr.add]
      refine ⟨((k, a', b'), s, (xl, xh, yl, yh), (po, pl, pc)), ⟨?_, ?_, ?_, ?_, ?_, ?_, ?_, ?_, ?_⟩, ⟨q1, q2⟩, ⟨q3, q4⟩, q5⟩
      · have := hc 0 (by omega); rw [e0] at this; simpa using this
      · simpa using hc 1 (by omega)
      · simpa using hc 2 (by omega)
      · simpa using hc 3 (by omega)
      · simpa using hc 4 (by omega)
      · simpa using hc 5 (by omega)
      · simpa using hc 6 (by omega)
      · simpa using hc 7 (by omega)
      · simpa using hc 8 (by omega)
    obtain ⟨F, hF⟩ := choose_lt (α := (Int × Int × Int) × ByteArray × (Nat × Nat × Nat × Nat) × (Option Addr × Nat × Nat)) hop
    refine ⟨⟨fun i => (F i).1.1, fun i => (F i).1.2.1, fun i => (F i).1.2.2, fun i => (F i).2.1, fun i => (F i).2.2.1.1, fun i => (F i).2.2.1.2.1, fun i => (F i).2.2.1.2.2.1, fun i => (F i).2.2.1.2.2.2, fun i => (F i).2.2.2.1, fun i => (F i).2.2.2.2.1, fun i => (F i).2.2.2.2.2⟩, some a, n, c, rfl, ?_, fun i hi => (hF i hi).2, ?_⟩
    · by_cases hn : n = 0
      · exact Or.inl hn
      · right
        obtain ⟨g, off, spot⟩ := a
        have h00 := (hF 0 (by omega)).1.1
        have hspot : spot = none := by simpa [Addr.add] using World.cell?_spot h00
        subst hspot
        have ea : ∀ j, (Addr.mk g off none).add j = ⟨g, off + j, none⟩ := fun j => by
          by_cases hj : j = 0
          · subst hj; simp [Addr.add]
          · simp [Addr.add, hj]
        have ea2 : ∀ i j, ((Addr.mk g off none).add i).add j = ⟨g, off + i + j, none⟩ := fun i j => by
          rw [ea]
          by_cases hj : j = 0
          · subst hj; simp [Addr.add]
          · simp [Addr.add, hj]
        refine ⟨g, off, rfl, ?_, fun i hi => ?_⟩
        · have := World.block_lt_of_cell? W _ h00
          rw [ea] at this
          exact this
        · have := (hF i hi).1
          rw [ea2, ea2, ea2, ea2, ea2, ea2, ea2, ea2, ea] at this
          exact this
    · right
      simp only [Prod.mk.injEq] at hx
      exact ⟨_, _, hx.1, by simp⟩
end
end Go.Proofs.YtonhpkigoplmaaaGreatDoor
namespace Go.Proofs.YtonhpkigoplmaaaGreatDoor
open Go.RowKit Go.Deep Go.ChangeShapes Go.WideShapes

/-- A slice of n words as they lie in memory. -/
def WdV (W : World) (ao : Option Addr) (n : Nat) (ps : Nat → Nat) : Prop :=
  (∀ i, i < n → ps i < 18446744073709551616) ∧ (n = 0 ∨ ∃ g off, ao = some ⟨g, off, none⟩ ∧ g < W.heap.size ∧ ∀ i, i < n → W.cell? ⟨g, off + i, none⟩ = some (.int .u64 (ps i : Int)))

theorem WdV.below {W W' : World} {ao : Option Addr} {n : Nat} {ps : Nat → Nat} (h : WdV W ao n ps) (hb : Below W.heap.size W W') : WdV W' ao n ps := by
  refine ⟨h.1, ?_⟩
  rcases h.2 with h0 | ⟨g, off, e, hg, hc⟩
  · exact .inl h0
  · exact .inr ⟨g, off, e, Nat.lt_of_lt_of_le hg hb.size, fun i hi => by rw [hb.cell (by exact hg)]; exact hc i hi⟩

section
variable {H : Type} {enc : TypeId × Value → H} {W : World} {base : Nat} {spare : Nat → Bool} {held : Bool}

end
end Go.Proofs.YtonhpkigoplmaaaGreatDoor
namespace Go.Proofs.YtonhpkigoplmaaaGreatDoor
open Go.RowKit Go.Extern

theorem infoU64 : (Tryz.prog.info? 26).map (fun i => (i.zero, i.size, i.bytes)) = some (some (.int .u64 0), 1, 8) := by kernel_rfl
theorem infoF64 : (Tryz.prog.info? 65).map (fun i => (i.zero, i.size, i.bytes)) = some (some (.float .f64 0), 1, 8) := by kernel_rfl

def wvs (ps : Nat → Nat) (n : Nat) : List Value := (List.range n).map fun i => .int .u64 (ps i : Int)
def fvs (ps : Nat → Nat) (n : Nat) : List Value := (List.range n).map fun i => .float .f64 (ps i)

/-- A slice of n floats as they lie in memory. -/
def FlV (W : World) (ao : Option Addr) (n : Nat) (ps : Nat → Nat) : Prop :=
  n = 0 ∨ ∃ g off, ao = some ⟨g, off, none⟩ ∧ g < W.heap.size ∧ ∀ i, i < n → W.cell? ⟨g, off + i, none⟩ = some (.float .f64 (ps i))

theorem FlV.below {W W' : World} {ao : Option Addr} {n : Nat} {ps : Nat → Nat} (h : FlV W ao n ps) (hb : Below W.heap.size W W') : FlV W' ao n ps := by
  rcases h with h0 | ⟨g, off, e, hg, hc⟩
  · exact .inl h0
  · exact .inr ⟨g, off, e, Nat.lt_of_lt_of_le hg hb.size, fun i hi => by rw [hb.cell (by exact hg)]; exact hc i hi⟩

theorem WdV.of_owns {w : World} {v : Value} {n B : Nat} {ps : Nat → Nat} (h : w.ownsRow B 26 1 v n (wvs ps n)) (hp : ∀ i, i < n → ps i < 18446744073709551616) : ∃ ao c, v = .slice ao n c ∧ WdV w ao n ps := by
  obtain ⟨_, h2⟩ := h
  rcases h2 with ⟨rfl, h0⟩ | ⟨g, cap, cur, rfl, hg, hh, hn, hcap, hs, ht⟩
  · subst h0; exact ⟨none, 0, rfl, hp, .inl rfl⟩
  · refine ⟨_, _, rfl, hp, .inr ⟨g, 0, rfl, (Array.getElem?_eq_some_iff.1 hh).1, fun i hi => ?_⟩⟩
    have := congrArg (fun x => x[i]?) ht
    simp only [Nat.mul_one, List.getElem?_take, hi, if_true, Array.getElem?_toList, wvs, List.getElem?_map] at this
    rw [cell_of_cur hh, Nat.zero_add, this]
    simp [hi]

theorem FlV.of_owns {w : World} {v : Value} {n B : Nat} {ps : Nat → Nat} (h : w.ownsRow B 65 1 v n (fvs ps n)) : ∃ ao c, v = .slice ao n c ∧ FlV w ao n ps := by
  obtain ⟨_, h2⟩ := h
  rcases h2 with ⟨rfl, h0⟩ | ⟨g, cap, cur, rfl, hg, hh, hn, hcap, hs, ht⟩
  · subst h0; exact ⟨none, 0, rfl, .inl rfl⟩
  · refine ⟨_, _, rfl, .inr ⟨g, 0, rfl, (Array.getElem?_eq_some_iff.1 hh).1, fun i hi => ?_⟩⟩
    have := congrArg (fun x => x[i]?) ht
    simp only [Nat.mul_one, List.getElem?_take, hi, if_true, Array.getElem?_toList, fvs, List.getElem?_map] at this
    rw [cell_of_cur hh, Nat.zero_add, this]
    simp [hi]

theorem fvs_snoc (ps : Nat → Nat) (i : Nat) : fvs ps i ++ [.float .f64 (ps i)] = fvs ps (i + 1) := by
  unfold fvs
  rw [List.range_succ, List.map_append]
  rfl

theorem fpush_step {B : Nat} {w wr w1 : World} {v v' : Value} {i : Nat} {ps : Nat → Nat} {X : Obj} (hown : wr.ownsRow B 65 1 v i (fvs ps i)) (hb : Below B w wr) (hB : B ≤ w.heap.size)
    (hown' : w1.ownsRow B 65 1 v' (i + 1) (fvs ps i ++ [.float .f64 (ps i)])) (hgrow : (wr.alloc X).grownBy w1 v.ownBlock) :
    w1.ownsRow B 65 1 v' (i + 1) (fvs ps (i + 1)) ∧ Below B w w1 := by
  have hs := hb.size
  refine ⟨by rw [← fvs_snoc]; exact hown', ?_⟩
  exact (hb.alloc (by omega) X).grown hgrow (by simp; omega) (fun k hk => (hown.lt k hk).1)

end Go.Proofs.YtonhpkigoplmaaaGreatDoor
namespace Go.Proofs.YtonhpkigoplmaaaGreatDoor
open Go.RowKit Go.Extern

theorem right_all {ps : Nat → Nat} {n : Nat} (h1 : 1 ≤ n) (h2 : n ≤ 9) (h : ∀ i, i < n → (plainN (ps i)).isSome = true) : rightN ps n = 0 := by
  unfold rightN
  rw [if_neg (by omega), if_pos]
  rw [List.all_eq_true]
  intro i hi
  exact h i (List.mem_range.1 hi)

theorem right_bad {ps : Nat → Nat} {n i : Nat} (h1 : 1 ≤ n) (h2 : n ≤ 9) (hi : i < n) (h : (plainN (ps i)).isSome = false) : rightN ps n = 1 := by
  unfold rightN
  rw [if_neg (by omega), if_neg]
  rw [List.all_eq_true]
  intro hc
  have := hc i (List.mem_range.2 hi)
  rw [h] at this
  cases this

theorem right_shape {ps : Nat → Nat} {n : Nat} (h : n < 1 ∨ 9 < n) : rightN ps n = 8 := by
  unfold rightN; rw [if_pos h]

set_option maxHeartbeats 1000000 in
set_option maxRecDepth 100000 in
theorem right_any (ao : Option Addr) (n c : Nat) (ps : Nat → Nat) (w : World) (h : WdV w ao n ps) (hn : n * 8 ≤ 140737488355328) :
    Calls Tryz.prog 80 #[.slice ao n c] w fun e w' => e = .returned (.int .i64 (rightN ps n : Int)) ∧ Below w.heap.size w w' := by
  by_cases hs : n < 1 ∨ 9 < n
  · rw [right_shape hs]
    rcases hs with hs | hs
    · obtain rfl : n = 0 := by omega
      go_enter Tryz.func80, Tryz.ntmps80
      go_wp2
      go_ret
      exact ⟨rfl, Below.refl _ _⟩
    · have h9 : (9 : Int) < n := by omega
      have h1 : ¬ (n : Int) < 1 := by omega
      clear h
      go_enter Tryz.func80, Tryz.ntmps80
      go_wp2
      go_ret
      exact ⟨rfl, Below.refl _ _⟩
  · have h9 : ¬ (9 : Int) < n := by omega
    have h1 : ¬ (n : Int) < 1 := by omega
    have HW : Hid (WdV w ao n ps) := h
    have hn1 : 1 ≤ n := by omega
    have hn9 : n ≤ 9 := by omega
    clear h hs
    go_enter Tryz.func80, Tryz.ntmps80
    go_wp2
    go_loopw [3, 4, 5] (fun x _ _ wr => ∃ i : Nat, i ≤ n ∧ x = .int .i64 (i : Int) ∧ (∀ j, j < i → (plainN (ps j)).isSome = true) ∧ Below w.heap.size w wr) (fun x _ _ _ => n - (intOf x).toNat)
    case atStart => exact ⟨0, Nat.zero_le _, rfl, fun j hj => by omega, Below.refl _ _⟩
    case round =>
      obtain ⟨i, hi1, rfl, hall, hb⟩ := hrel
      by_cases hin : i < n
      · obtain ⟨g, off, rfl, hg, hc⟩ := HW.out.2.resolve_left (by omega)
        have hci := hc i hin
        rw [← hb.cell (by exact hg)] at hci
        have hlt := HW.out.1 i hin
        have Hb : Hid (Below w.heap.size w wr) := hb
        have HA : Hid (∀ j, j < i → (plainN (ps j)).isSome = true) := hall
        clear hc hb hall
        go_wp2_with fail
        refine Calls.mono (plain_any (ps i) _ hlt) ?_
        rintro e w1 ⟨x, rfl, ⟨xo, xn, xc, rfl, -, -⟩, hb1⟩
        have HB1 : Hid (Below w.heap.size w w1) := Hb.out.trans (hb1.mono Hb.out.size)
        clear hb1 Hb hci hlt
        cases hp : (plainN (ps i)).isSome
        · have HR : Hid (rightN ps n = 1) := right_bad hn1 hn9 hin hp
          clear hp HA
          go_wp2
          go_ret
          rw [HR.out]
          exact ⟨rfl, HB1.out.alloc HB1.out.size _⟩
        · have HA' : Hid (∀ j, j < i + 1 → (plainN (ps j)).isSome = true) := fun j hj => by
            by_cases h : j < i
            · exact HA.out j h
            · rw [show j = i by omega]; exact hp
          clear hp HA
          go_wp2
          go_roundw
          case rel => exact ⟨i + 1, by omega, by go_num, HA'.out, HB1.out.alloc HB1.out.size _⟩
          case measure => simp [intOf]; omega
      · have e : i = n := by omega
        subst e
        have HR : Hid (rightN ps i = 0) := right_all hn1 hn9 hall
        clear hall
        go_wp2
        go_ret
        rw [HR.out]
        exact ⟨rfl, hb⟩

set_option maxHeartbeats 1000000 in
set_option maxRecDepth 100000 in
theorem check_any (A : Nat → Addr) (ao : Option Addr) (n c : Nat) (ps : Nat → Nat) (w : World) (hS : Sents A w) (h : FlV w ao n ps) (hp : ∀ i, i < n → ps i < 18446744073709551616) (hn : n * 8 ≤ 140737488355328) :
    Calls Tryz.prog 102 #[.slice ao n c] w fun e w' => ∃ v, e = .returned v ∧ ErrIs A w' v (rightN ps n) ⟨#[]⟩ ∧ Below w.heap.size w w' := by
  by_cases hs : n < 1 ∨ 9 < n
  · rw [right_shape hs]
    have c2 : w.cell? ⟨7, 0, none⟩ = some (.iface 229 (.pointer (some (A 7)))) := hS.cell 7 (by omega)
    have HR : Hid (∀ w', ErrIs A w' (.iface 229 (.pointer (some (A 7)))) 8 ⟨#[]⟩) := fun w' => ErrIs.one 7 (by omega)
    clear h hp hS
    rcases hs with hs | hs
    · obtain rfl : n = 0 := by omega
      go_enter Tryz.func102, Tryz.ntmps102
      go_wp2
      go_ret
      exact ⟨_, rfl, HR.out _, Below.refl _ _⟩
    · have h9 : (9 : Int) < n := by omega
      have h1 : ¬ (n : Int) = 0 := by omega
      go_enter Tryz.func102, Tryz.ntmps102
      go_wp2
      go_ret
      exact ⟨_, rfl, HR.out _, Below.refl _ _⟩
  · have h9 : ¬ (9 : Int) < n := by omega
    have h1 : ¬ (n : Int) = 0 := by omega
    have HW : Hid (FlV w ao n ps) := h
    have HP : Hid (∀ i, i < n → ps i < 18446744073709551616) := hp
    have HS : Hid (Sents A w) := hS
    have hn1 : 1 ≤ n := by omega
    have hn9 : n ≤ 9 := by omega
    clear h hs hp hS
    go_enter Tryz.func102, Tryz.ntmps102
    go_wp2
    go_loopw [4, 16] (fun _ x wr => ∃ i : Nat, i ≤ n ∧ x = .int .i64 (i : Int) ∧ (∀ j, j < i → (plainN (ps j)).isSome = true) ∧ Below w.heap.size w wr) (fun _ x _ => n - (intOf x).toNat)
    case atStart => exact ⟨0, Nat.zero_le _, rfl, fun j hj => by omega, Below.refl _ _⟩
    case round =>
      obtain ⟨i, hi1, rfl, hall, hb⟩ := hrel
      by_cases hin : i < n
      · obtain ⟨g, off, rfl, hg, hc⟩ := HW.out.resolve_left (by omega)
        have hci := hc i hin
        rw [← hb.cell (by exact hg)] at hci
        have HL : Hid (ps i < 18446744073709551616) := HP.out i hin
        have Hb : Hid (Below w.heap.size w wr) := hb
        have HA : Hid (∀ j, j < i → (plainN (ps j)).isSome = true) := hall
        clear hc hb hall
        go_wp2_with fail
        refine Calls.mono (isPlain_any (ps i) _ HL.out) ?_
        rintro e w1 ⟨rfl, rfl⟩
        clear hci
        cases hp : (plainN (ps i)).isSome
        · have HR : Hid (rightN ps n = 1) := right_bad hn1 hn9 hin hp
          have c2 : w1.cell? ⟨3, 0, none⟩ = some (.iface 229 (.pointer (some (A 0)))) := (HS.out.below Hb.out (Nat.le_refl _)).cell 0 (by omega)
          clear hp HA
          go_wp2
          go_ret
          rw [HR.out]
          exact ⟨_, rfl, ErrIs.one 0 (by omega), Hb.out⟩
        · have HA' : Hid (∀ j, j < i + 1 → (plainN (ps j)).isSome = true) := fun j hj => by
            by_cases h : j < i
            · exact HA.out j h
            · rw [show j = i by omega]; exact hp
          clear hp HA
          go_wp2
          go_roundw
          case rel => exact ⟨i + 1, by omega, by go_num, HA'.out, Hb.out⟩
          case measure => simp [intOf]; omega
      · have e : i = n := by omega
        subst e
        have HR : Hid (rightN ps i = 0) := right_all hn1 hn9 hall
        clear hall
        go_wp2
        go_ret
        rw [HR.out]
        exact ⟨_, rfl, .nil, hb⟩

attribute [local go_sem] run_store_float
theorem pointF_any (b : Nat) (w : World) (hb : b < 18446744073709551616) (hp : (plainN b).isSome = true) : Calls Tryz.prog 167 #[.float .f64 b] w fun e w' => e = .returned (.agg #[.float .f64 (posW b), .float .f64 (posW b)]) ∧ Below w.heap.size w w' := by
  have HP : Hid (∀ W, Calls Tryz.prog 87 #[.float .f64 b] W fun e w' => e = .returned (.float .f64 (posW b)) ∧ w' = W) := fun W => oneZero_any b W hb hp
  clear hb hp
  generalize posW b = q at *
  go_enter Tryz.func167, Tryz.ntmps167
  go_wp2_with fail
  refine Calls.mono (HP.out _) ?_
  rintro e w1 ⟨rfl, rfl⟩
  go_wp2_with fail
  refine Calls.mono (HP.out _) ?_
  rintro e w1 ⟨rfl, rfl⟩
  go_wp2_with fail
  refine bodyPost_ret (v := .agg #[.float .f64 q, .float .f64 q]) (by simp [results, Tryz.results167, go_sem]) rfl ?_
  exact ⟨rfl, (Below.refl _ _).alloc (Nat.le_refl _) _⟩
end Go.Proofs.YtonhpkigoplmaaaGreatDoor
namespace Go.Proofs.YtonhpkigoplmaaaGreatDoor
open Go.RowKit

end Go.Proofs.YtonhpkigoplmaaaGreatDoor
namespace Go.Proofs.YtonhpkigoplmaaaGreatDoor
open Go.RowKit Go.Extern Ieee
attribute [local go_sem] run_store_float

end Go.Proofs.YtonhpkigoplmaaaGreatDoor
namespace Go.Proofs.YtonhpkigoplmaaaGreatDoor
open Go.RowKit Go.Extern Ieee
attribute [local go_sem] run_store_float

end Go.Proofs.YtonhpkigoplmaaaGreatDoor
namespace Go.Proofs.YtonhpkigoplmaaaGreatDoor
open Go.RowKit Go.Extern Ieee

theorem m_add (A : Nat → Addr) {al ah bl_ bh : Nat} (i : Iv al ah) (j : Iv bl_ bh) (r : Nat × Nat × Nat × ByteArray) (hr : r = refOpN 3 (plT al) (plT ah) (plT bl_) (plT bh)) : ∀ w, Sents A w → Calls Tryz.prog 44 #[.agg #[.float .f64 al, .float .f64 ah], .agg #[.float .f64 bl_, .float .f64 bh]] w fun ev w' => OpR A w r.1 r.2.1 r.2.2.1 r.2.2.2 ev w' := by
  have hc := opCase_any A 3 i j r hr
  rcases hc with ⟨hk, -⟩ | ⟨hk, -⟩ | ⟨hk, -⟩ | ⟨hk, h⟩ | ⟨hk, -⟩ | ⟨hk, -⟩ | ⟨hk, -⟩ | ⟨hk, -⟩ | ⟨h0, h1, h2, h3, h4, h5, h6, h7, -⟩ <;> first | exact h | omega

theorem m_mul (A : Nat → Addr) {al ah bl_ bh : Nat} (i : Iv al ah) (j : Iv bl_ bh) (r : Nat × Nat × Nat × ByteArray) (hr : r = refOpN 5 (plT al) (plT ah) (plT bl_) (plT bh)) : ∀ w, Sents A w → Calls Tryz.prog 46 #[.agg #[.float .f64 al, .float .f64 ah], .agg #[.float .f64 bl_, .float .f64 bh]] w fun ev w' => OpR A w r.1 r.2.1 r.2.2.1 r.2.2.2 ev w' := by
  have hc := opCase_any A 5 i j r hr
  rcases hc with ⟨hk, -⟩ | ⟨hk, -⟩ | ⟨hk, -⟩ | ⟨hk, -⟩ | ⟨hk, -⟩ | ⟨hk, h⟩ | ⟨hk, -⟩ | ⟨hk, -⟩ | ⟨h0, h1, h2, h3, h4, h5, h6, h7, -⟩ <;> first | exact h | omega

end Go.Proofs.YtonhpkigoplmaaaGreatDoor
