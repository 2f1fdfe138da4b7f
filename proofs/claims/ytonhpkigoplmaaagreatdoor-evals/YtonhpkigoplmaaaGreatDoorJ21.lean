/-
  OpD, LawA, LawB, LawP, LawO, Opens.
-/
import Derived.Test.YtonhpkigoplmaaaGreatDoorJ18
import Derived.Test.YtonhpkigoplmaaaGreatDoorJ20
import Derived.Test.YtonhpkigoplmaaaGreatDoorJ06
import Derived.Deep.DeepCutAuto
import Derived.Deep.Slices
import Derived.Lib.SmallJoins
import Derived.ProofKit
import Derived.OpenShut
namespace Go.Proofs.YtonhpkigoplmaaaGreatDoor
open Go.RowKit Go.Extern Ieee

theorem kw_lt {d f : Nat} {p q : Int} (hd : FR d p) (hf : FR f q) (pd : plP p = true) (pf : plP q = true) : kw d < kw f ↔ p < q := by
  have e1 := posF_kw d
  have e2 := posF_kw f
  rw [hd.pos] at e1
  rw [hf.pos] at e2
  constructor
  · intro h
    have h1 := pos_mono_kw (Int.le_of_lt h)
    rw [← e1, ← e2] at h1
    apply Decidable.byContradiction
    intro hc
    have he : p = q := by omega
    have : d = f := by rw [hd.word pd, hf.word pf, he]
    subst this
    omega
  · intro h
    apply Decidable.byContradiction
    intro hc
    have h1 := pos_mono_kw (show kw f ≤ kw d by omega)
    rw [← e1, ← e2] at h1
    omega

theorem box2 {u v : Nat} (i : Iv u u) (j : Iv v v) : boxP (posF u) (posF v) = (u, v, 0) := by
  rw [boxP_plain i.q1 j.q1, ← i.f1.word i.q1, ← j.f1.word j.q1]

theorem posW_iv {b : Nat} {x : Bool × Nat × Int} (hb : b < 18446744073709551616) (h : plainN b = some x) : Iv (posW b) (posW b) ∧ ∀ way, posV x way = posF (posW b) := by
  have e : plainN (posW b) = some x := by rw [plainN_posW _ hb]; exact h
  have e2 : plT (posW b) = x := by unfold plT; rw [e]; rfl
  exact ⟨⟨posW_lt hb, posW_lt hb, posW_nz _, posW_nz _, by rw [e2]; exact e, by rw [e2]; exact e, Int.le_refl _⟩, fun way => posV_plain (posW_lt hb) e way⟩

theorem Iv.word {u d : Nat} (i : Iv u u) (f : FR d (posF u)) : d = u := (f.word i.q1).trans (i.f1.word i.q1).symm

theorem plT_pos {l h : Nat} (i : Iv l h) (hs : ¬ sgnI (plT l).1 (plT l).2.1 < 0) : (plT l).1 = false := by
  have hp := i.p1
  generalize plT l = x at *
  unfold plainN at hp
  split at hp
  · cases hp; rfl
  · split at hp
    · cases hp
    · cases hp
      unfold sgnI at hs
      simp only at hs ⊢
      rw [if_neg (show ¬ l % 4503599627370496 + 4503599627370496 = 0 by omega)] at hs
      cases hd : decide (l / 9223372036854775808 = 1)
      · rfl
      · rw [hd, if_pos rfl] at hs; omega

theorem case_neg (A : Nat → Addr) {al ah bl_ bh : Nat} (i : Iv al ah) : OpCase A 0 al ah bl_ bh (aroundN (negT (plT ah)) (negT (plT al))).1 (aroundN (negT (plT ah)) (negT (plT al))).2.1 0 ⟨#[]⟩ := by
  have n1 := plain_neg i.lt1 i.p1
  have n2 := plain_neg i.lt2 i.p2
  obtain ⟨a1, a2⟩ := posW_iv (negW_lt i.lt1) n1
  obtain ⟨b1, b2⟩ := posW_iv (negW_lt i.lt2) n2
  rw [aroundN_posV, a2, b2, box2 b1 a1]
  exact Or.inl ⟨rfl, rfl, rfl, (fun w => negF_any al ah w (negW_lt i.lt1) (negW_lt i.lt2) (by rw [n1]; rfl) (by rw [n2]; rfl))⟩

theorem plP_min {p q : Int} (h1 : plP p = true) (h2 : plP q = true) : plP (min p q) = true := by
  rcases Int.le_total p q with h | h
  · rw [Int.min_eq_left h]; exact h1
  · rw [Int.min_eq_right h]; exact h2
theorem plP_max {p q : Int} (h1 : plP p = true) (h2 : plP q = true) : plP (max p q) = true := by
  rcases Int.le_total p q with h | h
  · rw [Int.max_eq_right h]; exact h2
  · rw [Int.max_eq_left h]; exact h1

theorem case_hull (A : Nat → Addr) {al ah bl_ bh : Nat} (i : Iv al ah) (j : Iv bl_ bh) : OpCase A 1 al ah bl_ bh (spanT (plT al) (plT ah) (plT bl_) (plT bh)).1 (spanT (plT al) (plT ah) (plT bl_) (plT bh)).2.1 0 ⟨#[]⟩ := by
  rw [span_posV, i.v1, i.v2, j.v1, j.v2, i.v1, i.v2, j.v1, j.v2]
  have hi := i.le
  have hj := j.le
  have e1 : min (min (min (posF al) (posF ah)) (posF bl_)) (posF bh) = min (posF al) (posF bl_) := by omega
  have e2 : max (max (max (posF al) (posF ah)) (posF bl_)) (posF bh) = max (posF ah) (posF bh) := by omega
  rw [e1, e2, boxP_plain (plP_min i.q1 j.q1) (plP_max i.q2 j.q2)]
  rw [← (i.f1.mn j.f1).word (plP_min i.q1 j.q1), ← (i.f2.mx j.f2).word (plP_max i.q2 j.q2)]
  exact Or.inr (Or.inl ⟨rfl, rfl, rfl, (fun w => hullF_any al ah bl_ bh _ _ _ _ w i.f1 i.f2 j.f1 j.f2)⟩)

theorem case_meet (A : Nat → Addr) {al ah bl_ bh : Nat} (i : Iv al ah) (j : Iv bl_ bh) : OpCase A 2 al ah bl_ bh (meetT (plT al) (plT ah) (plT bl_) (plT bh)).1 (meetT (plT al) (plT ah) (plT bl_) (plT bh)).2.1 (meetT (plT al) (plT ah) (plT bl_) (plT bh)).2.2 ⟨#[]⟩ := by
  have hlo : ∃ y, Iv y y ∧ meetLo (plT al) (plT bl_) = plT y ∧ posF y = max (posF al) (posF bl_) := by
    unfold meetLo
    rw [lessT_pos i.low j.low]
    by_cases h : posF al < posF bl_
    · rw [decide_eq_true h, if_pos rfl]; exact ⟨bl_, j.low, rfl, by omega⟩
    · rw [decide_eq_false h, if_neg Bool.false_ne_true]; exact ⟨al, i.low, rfl, by omega⟩
  have hhi : ∃ x, Iv x x ∧ meetHi (plT ah) (plT bh) = plT x ∧ posF x = min (posF ah) (posF bh) := by
    unfold meetHi
    rw [lessT_pos j i]
    by_cases h : posF bh < posF ah
    · rw [decide_eq_true h, if_pos rfl]; exact ⟨bh, j.high, rfl, by omega⟩
    · rw [decide_eq_false h, if_neg Bool.false_ne_true]; exact ⟨ah, i.high, rfl, by omega⟩
  obtain ⟨y, iy, ey, py⟩ := hlo
  obtain ⟨x, ix, ex, px⟩ := hhi
  have fu : FR (fmax al bl_) (posF y) := by rw [py]; exact i.f1.mx j.f1
  have fv : FR (fmin ah bh) (posF x) := by rw [px]; exact i.f2.mn j.f2
  have eu := iy.word fu
  have ev := ix.word fv
  have ho : FloatKind.f64.format.order (fmax al bl_) (fmin ah bh) = some (compare (kw y) (kw x)) := by
    rw [eu, ev]; exact order_kw iy.f1 ix.f1
  have hk := kw_lt ix.f1 iy.f1 ix.q1 iy.q1
  unfold meetT
  rw [ey, ex, lessT_pos ix iy]
  by_cases h : posF x < posF y
  · rw [decide_eq_true h, if_pos rfl]
    have hg : compare (kw y) (kw x) = .gt := Int.compare_eq_gt.2 (hk.2 h)
    rw [hg] at ho
    exact Or.inr (Or.inr (Or.inl ⟨rfl, (fun w hS => meetF_none A al ah bl_ bh _ _ _ _ w hS i.f1 i.f2 j.f1 j.f2 ho)⟩))
  · rw [decide_eq_false h, if_neg Bool.false_ne_true, aroundN_posV, iy.v1, ix.v1, box2 iy ix]
    refine Or.inr (Or.inr (Or.inl ⟨rfl, (fun w _ => ?_)⟩))
    have hm := meetF_some A al ah bl_ bh _ _ _ _ _ w i.f1 i.f2 j.f1 j.f2 ho (fun hc => h (hk.1 (Int.compare_eq_gt.1 hc)))
    rw [eu, ev] at hm
    exact hm

theorem case_add (A : Nat → Addr) {al ah bl_ bh : Nat} (i : Iv al ah) (j : Iv bl_ bh) (r : Nat × Nat × Nat × ByteArray) (hr : r = nameT (aroundN (sumT (plT al) (plT bl_)) (sumT (plT ah) (plT bh))) ⟨#[43]⟩) : OpCase A 3 al ah bl_ bh r.1 r.2.1 r.2.2.1 r.2.2.2 := by
  obtain ⟨d1, u1, e1, g1⟩ := sum_plain i.lt1 j.lt1 i.z1 i.p1 j.p1
  obtain ⟨d2, u2, e2, g2⟩ := sum_plain i.lt2 j.lt2 i.z2 i.p2 j.p2
  rw [aroundN_posV, nameT_boxP] at hr
  subst hr
  exact Or.inr (Or.inr (Or.inr (Or.inl ⟨rfl, (fun w hS => addF_any A al ah bl_ bh d1 u1 d2 u2 _ _ w hS g1 g2 e1.1 e2.2)⟩)))

theorem case_sub (A : Nat → Addr) {al ah bl_ bh : Nat} (i : Iv al ah) (j : Iv bl_ bh) (r : Nat × Nat × Nat × ByteArray) (hr : r = nameT (aroundN (sumT (plT al) (negT (plT bh))) (sumT (plT ah) (negT (plT bl_)))) ⟨#[45]⟩) : OpCase A 4 al ah bl_ bh r.1 r.2.1 r.2.2.1 r.2.2.2 := by
  obtain ⟨d1, u1, e1, g1⟩ := sum_plain i.lt1 (negW_lt j.lt2) i.z1 i.p1 (plain_neg j.lt2 j.p2)
  obtain ⟨d2, u2, e2, g2⟩ := sum_plain i.lt2 (negW_lt j.lt1) i.z2 i.p2 (plain_neg j.lt1 j.p1)
  rw [aroundN_posV, nameT_boxP] at hr
  subst hr
  exact Or.inr (Or.inr (Or.inr (Or.inr (Or.inl ⟨rfl, (fun w hS => subF_any A al ah bl_ bh d1 u1 d2 u2 _ _ w hS g1 g2 e1.1 e2.2)⟩))))

theorem case_mul (A : Nat → Addr) {al ah bl_ bh : Nat} (i : Iv al ah) (j : Iv bl_ bh) (r : Nat × Nat × Nat × ByteArray) (hr : r = nameT (spanT (prodN (plT al) (plT bl_)) (prodN (plT al) (plT bh)) (prodN (plT ah) (plT bl_)) (prodN (plT ah) (plT bh))) ⟨#[42]⟩) : OpCase A 5 al ah bl_ bh r.1 r.2.1 r.2.2.1 r.2.2.2 := by
  obtain ⟨d1, u1, e1, g1⟩ := prod_plain i.lt1 j.lt1 i.p1 j.p1
  obtain ⟨d2, u2, e2, g2⟩ := prod_plain i.lt1 j.lt2 i.p1 j.p2
  obtain ⟨d3, u3, e3, g3⟩ := prod_plain i.lt2 j.lt1 i.p2 j.p1
  obtain ⟨d4, u4, e4, g4⟩ := prod_plain i.lt2 j.lt2 i.p2 j.p2
  rw [span_posV, nameT_boxP] at hr
  subst hr
  have f1 := e1.1.mn e2.1
  have f2 := f1.mn e3.1
  have f3 := f2.mn e4.1
  have k1 := e1.2.mx e2.2
  have k2 := k1.mx e3.2
  have k3 := k2.mx e4.2
  exact Or.inr (Or.inr (Or.inr (Or.inr (Or.inr (Or.inl ⟨rfl, (fun w hS => mulF_any A al ah bl_ bh _ _ _ _ w hS (fun w => corners_mul al ah bl_ bh d1 u1 d2 u2 d3 u3 d4 u4 _ _ _ _ _ _ w (fun w ts t => run_min_float w ts t e1.1 e2.1) (fun w ts t => run_min_float w ts t f1 e3.1) (fun w ts t => run_min_float w ts t f2 e4.1) (fun w ts t => run_max_float w ts t e1.2 e2.2) (fun w ts t => run_max_float w ts t k1 e3.2) (fun w ts t => run_max_float w ts t k2 e4.2) g1 g2 g3 g4) f3 k3)⟩)))))

theorem case_div (A : Nat → Addr) {al ah bl_ bh : Nat} (i : Iv al ah) (j : Iv bl_ bh) (r : Nat × Nat × Nat × ByteArray) (hr : r = if holdsT (plT bl_) (plT bh) = true then (0, 0, 4, ⟨#[47]⟩) else nameT (spanT (quoN (plT al) (plT bl_)) (quoN (plT al) (plT bh)) (quoN (plT ah) (plT bl_)) (quoN (plT ah) (plT bh))) ⟨#[47]⟩) : OpCase A 6 al ah bl_ bh r.1 r.2.1 r.2.2.1 r.2.2.2 := by
  obtain ⟨o1, ho1, hl1, hg1⟩ := sgn_order j
  obtain ⟨o2, ho2, hl2, hg2⟩ := sgn_order j.high
  have hh : (o1 != .gt && o2 != .lt) = holdsT (plT bl_) (plT bh) := by
    have x1 : (o1 != .gt) = decide (sgnI (plT bl_).1 (plT bl_).2.1 ≤ 0) := by
      by_cases h : 0 < sgnI (plT bl_).1 (plT bl_).2.1
      · rw [hg1.2 h, decide_eq_false (by omega)]; rfl
      · rw [decide_eq_true (show sgnI (plT bl_).1 (plT bl_).2.1 ≤ 0 by omega)]
        cases o1 with
        | lt => rfl
        | eq => rfl
        | gt => exact absurd (hg1.1 rfl) h
    have x2 : (o2 != .lt) = decide (0 ≤ sgnI (plT bh).1 (plT bh).2.1) := by
      by_cases h : sgnI (plT bh).1 (plT bh).2.1 < 0
      · rw [hl2.2 h, decide_eq_false (by omega)]; rfl
      · rw [decide_eq_true (show 0 ≤ sgnI (plT bh).1 (plT bh).2.1 by omega)]
        cases o2 with
        | lt => exact absurd (hl2.1 rfl) h
        | eq => rfl
        | gt => rfl
    rw [x1, x2]; rfl
  cases hz : holdsT (plT bl_) (plT bh)
  · rw [hz] at hh hr
    rw [if_neg Bool.false_ne_true] at hr
    obtain ⟨n1, n2⟩ := iv_ne j hz
    obtain ⟨d1, u1, e1, g1⟩ := quo_plain i.lt1 j.lt1 i.p1 j.p1 n1
    obtain ⟨d2, u2, e2, g2⟩ := quo_plain i.lt1 j.lt2 i.p1 j.p2 n2
    obtain ⟨d3, u3, e3, g3⟩ := quo_plain i.lt2 j.lt1 i.p2 j.p1 n1
    obtain ⟨d4, u4, e4, g4⟩ := quo_plain i.lt2 j.lt2 i.p2 j.p2 n2
    rw [span_posV, nameT_boxP] at hr
    subst hr
    have f1 := e1.1.mn e2.1
    have f2 := f1.mn e3.1
    have f3 := f2.mn e4.1
    have k1 := e1.2.mx e2.2
    have k2 := k1.mx e3.2
    have k3 := k2.mx e4.2
    exact Or.inr (Or.inr (Or.inr (Or.inr (Or.inr (Or.inr (Or.inl ⟨rfl, (fun w hS => divF_any A al ah bl_ bh _ _ _ _ o1 o2 w hS ho1 ho2 hh (fun w => corners_quo al ah bl_ bh d1 u1 d2 u2 d3 u3 d4 u4 _ _ _ _ _ _ w (fun w ts t => run_min_float w ts t e1.1 e2.1) (fun w ts t => run_min_float w ts t f1 e3.1) (fun w ts t => run_min_float w ts t f2 e4.1) (fun w ts t => run_max_float w ts t e1.2 e2.2) (fun w ts t => run_max_float w ts t k1 e3.2) (fun w ts t => run_max_float w ts t k2 e4.2) g1 g2 g3 g4) f3 k3)⟩))))))
  · rw [hz] at hh hr
    rw [if_pos rfl] at hr
    subst hr
    exact Or.inr (Or.inr (Or.inr (Or.inr (Or.inr (Or.inr (Or.inl ⟨rfl, (fun w hS => divF_zero A al ah bl_ bh o1 o2 w hS ho1 ho2 hh)⟩))))))

theorem case_sqrt (A : Nat → Addr) {al ah bl_ bh : Nat} (i : Iv al ah) (r : Nat × Nat × Nat × ByteArray) (hr : r = if sgnI (plT al).1 (plT al).2.1 < 0 then (0, 0, 5, ⟨#[115, 113, 114, 116]⟩) else nameT (aroundN (rootN (plT al)) (rootN (plT ah))) ⟨#[115, 113, 114, 116]⟩) : OpCase A 7 al ah bl_ bh r.1 r.2.1 r.2.2.1 r.2.2.2 := by
  obtain ⟨o1, ho1, hl1, hg1⟩ := sgn_order i
  by_cases hs : sgnI (plT al).1 (plT al).2.1 < 0
  · rw [if_pos hs] at hr
    rw [hl1.2 hs] at ho1
    subst hr
    exact Or.inr (Or.inr (Or.inr (Or.inr (Or.inr (Or.inr (Or.inr (Or.inl ⟨rfl, (fun w hS => sqrtF_neg A al ah w hS ho1)⟩)))))))
  · rw [if_neg hs] at hr
    have hs2 : ¬ sgnI (plT ah).1 (plT ah).2.1 < 0 := by
      have a := (sgn_pos (plT al) 1).1
      have b := (sgn_pos (plT ah) 1).1
      rw [i.v1 1] at a
      rw [i.v2 1] at b
      have := i.le
      omega
    obtain ⟨d1, u1, e1, g1⟩ := root_plain i.lt1 i.z1 i.p1 (plT_pos i hs)
    obtain ⟨d2, u2, e2, g2⟩ := root_plain i.lt2 i.z2 i.p2 (plT_pos i.high hs2)
    rw [aroundN_posV, nameT_boxP] at hr
    subst hr
    exact Or.inr (Or.inr (Or.inr (Or.inr (Or.inr (Or.inr (Or.inr (Or.inl ⟨rfl, (fun w hS => sqrtF_any2 A al ah d1 u1 d2 u2 o1 _ _ w hS ho1 (fun hc => hs (hl1.1 hc)) g1 g2 e1.1 e2.2)⟩)))))))

theorem opCase_any (A : Nat → Addr) (k : Int) {al ah bl_ bh : Nat} (i : Iv al ah) (j : Iv bl_ bh) (r : Nat × Nat × Nat × ByteArray) (hr : r = refOpN k (plT al) (plT ah) (plT bl_) (plT bh)) : OpCase A k al ah bl_ bh r.1 r.2.1 r.2.2.1 r.2.2.2 := by
  unfold refOpN at hr
  by_cases k0 : k = 0
  · subst k0; rw [if_pos rfl] at hr; subst hr; exact case_neg A i
  rw [if_neg k0] at hr
  by_cases k1 : k = 1
  · subst k1; rw [if_pos rfl] at hr; subst hr; exact case_hull A i j
  rw [if_neg k1] at hr
  by_cases k2 : k = 2
  · subst k2; rw [if_pos rfl] at hr; subst hr; exact case_meet A i j
  rw [if_neg k2] at hr
  by_cases k3 : k = 3
  · subst k3; rw [if_pos rfl] at hr; exact case_add A i j r hr
  rw [if_neg k3] at hr
  by_cases k4 : k = 4
  · subst k4; rw [if_pos rfl] at hr; exact case_sub A i j r hr
  rw [if_neg k4] at hr
  by_cases k5 : k = 5
  · subst k5; rw [if_pos rfl] at hr; exact case_mul A i j r hr
  rw [if_neg k5] at hr
  by_cases k6 : k = 6
  · subst k6; rw [if_pos rfl] at hr; exact case_div A i j r hr
  rw [if_neg k6] at hr
  by_cases k7 : k = 7
  · subst k7; rw [if_pos rfl] at hr; exact case_sqrt A i r hr
  rw [if_neg k7, aroundN_posV, i.v1, i.v2, i.box] at hr
  subst hr
  exact Or.inr (Or.inr (Or.inr (Or.inr (Or.inr (Or.inr (Or.inr (Or.inr (⟨k0, k1, k2, k3, k4, k5, k6, k7, rfl, rfl, rfl, rfl⟩))))))))

/-- plain.Op answers what the document says. -/
theorem plainOp_ref (A : Nat → Addr) (k : Int) (xl xh yl yh : Nat) (w : World) (hS : Sents A w) (h1 : xl < 18446744073709551616) (h2 : xh < 18446744073709551616) (h3 : yl < 18446744073709551616) (h4 : yh < 18446744073709551616)
    (al ah bl_ bh : Nat) (e1 : al = (makeN xl xh).1) (e2 : ah = (makeN xl xh).2.1) (e3 : bl_ = (makeN yl yh).1) (e4 : bh = (makeN yl yh).2.1) (r : Nat × Nat × Nat × ByteArray) (hr : r = refOpN k (plT al) (plT ah) (plT bl_) (plT bh)) :
    Calls Tryz.prog 21 #[.int .i64 k, .agg #[.int .u64 (xl : Int), .int .u64 (xh : Int)], .agg #[.int .u64 (yl : Int), .int .u64 (yh : Int)]] w fun e w' => e = .returned (.tuple #[.agg #[.int .u64 (r.1 : Int), .int .u64 (r.2.1 : Int)], .int .i64 (r.2.2.1 : Int), .string r.2.2.2]) ∧ Below w.heap.size w w' := by
  have iA : Iv al ah := by rw [e1, e2]; exact made_iv xl xh h1 h2
  have iB : Iv bl_ bh := by rw [e3, e4]; exact made_iv yl yh h3 h4
  refine plainOp_any A k xl xh yl yh al ah bl_ bh _ _ _ _ w hS ?_ ?_ (opCase_any A k iA iB r hr)
  · intro w hS; rw [e1, e2]; exact made_any A xl xh w h1 h2 hS
  · intro w hS; rw [e3, e4]; exact made_any A yl yh w h3 h4 hS
end Go.Proofs.YtonhpkigoplmaaaGreatDoor
namespace Go.Proofs.YtonhpkigoplmaaaGreatDoor
open Go.RowKit

theorem lawBox_any (x y : Int) (w : World) : Calls Tryz.prog 26 #[.agg #[.int .u64 x, .int .u64 y]] w fun e w' => e = .returned (.agg #[.int .u64 x, .int .u64 y]) ∧ Below w.heap.size w w' := by
  go_enter Tryz.func26, Tryz.ntmps26
  go_wp2
  exact bodyPost_ret (v := .agg #[.int .u64 x, .int .u64 y]) (by simp [results, Tryz.results26, go_sem]) rfl ⟨rfl, ((Below.refl _ _).alloc (Nat.le_refl _) _).alloc (by simp) _⟩

theorem same_eq (x y : Int) (w : World) : Calls Tryz.prog 28 #[.agg #[.int .u64 x, .int .u64 y], .agg #[.int .u64 x, .int .u64 y]] w fun e w' => e = .returned (.bool true) ∧ Below w.heap.size w w' := by
  go_enter Tryz.func28, Tryz.ntmps28
  go_wp2
  go_ret
  exact ⟨rfl, ((Below.refl _ _).alloc (Nat.le_refl _) _).alloc (by simp) _⟩

theorem blk9 {W : World} {g : Nat} {a0 a1 a2 a3 a4 a5 a6 a7 a8 : Value} {t : TypeId} (h : W.heap[g]? = some (.cells #[a0, a1, a2, a3, a4, a5, a6, a7, a8] t (0, 0))) :
    W.cell? ⟨g, 0, none⟩ = some a0 ∧ W.cell? ⟨g, 1, none⟩ = some a1 ∧ W.cell? ⟨g, 2, none⟩ = some a2 ∧ W.cell? ⟨g, 3, none⟩ = some a3 ∧ W.cell? ⟨g, 4, none⟩ = some a4 ∧ W.cell? ⟨g, 5, none⟩ = some a5 ∧ W.cell? ⟨g, 6, none⟩ = some a6 ∧ W.cell? ⟨g, 7, none⟩ = some a7 ∧ W.cell? ⟨g, 8, none⟩ = some a8 :=
  ⟨by simp [World.cell?, h], by simp [World.cell?, h], by simp [World.cell?, h], by simp [World.cell?, h], by simp [World.cell?, h], by simp [World.cell?, h], by simp [World.cell?, h], by simp [World.cell?, h], by simp [World.cell?, h]⟩

set_option maxHeartbeats 1000000 in
set_option maxRecDepth 100000 in
theorem plays_make (A : Nat → Addr) (a b : Int) (s : ByteArray) (xl xh : Nat) (yl yh : Int) (po : Option Addr) (pl pc : Nat) (w : World) (h1 : xl < 18446744073709551616) (h2 : xh < 18446744073709551616) (hS : Sents A w) :
    Calls Tryz.prog 18 #[.agg #[.int .i64 1, .int .i64 a, .int .i64 b, .string s, .int .u64 (xl : Int), .int .u64 (xh : Int), .int .u64 yl, .int .u64 yh, .slice po pl pc]] w fun e w' => e = .returned (.bool true) ∧ Below w.heap.size w w' := by
  have H1 : Hid (xl < 18446744073709551616) := h1
  have H2 : Hid (xh < 18446744073709551616) := h2
  clear h1 h2
  go_enter Tryz.func18, Tryz.ntmps18
  go_wp2_with fail
  have hW : Below w.heap.size w (w.alloc (Obj.cells #[Value.int IntKind.i64 1, Value.int IntKind.i64 a, Value.int IntKind.i64 b, Value.string s, Value.int IntKind.u64 ↑xl, Value.int IntKind.u64 ↑xh, Value.int IntKind.u64 yl, Value.int IntKind.u64 yh, Value.slice po pl pc] 31)) := (Below.refl _ _).alloc (Nat.le_refl _) _
  have hS1 := hS.below hW (Nat.le_refl _)
  refine (lawBox_any _ _ _).mono ?_
  rintro e w1 ⟨rfl, hb1⟩
  have B0 := blk_below (blk_new w (Obj.cells #[Value.int IntKind.i64 1, Value.int IntKind.i64 a, Value.int IntKind.i64 b, Value.string s, Value.int IntKind.u64 ↑xl, Value.int IntKind.u64 ↑xh, Value.int IntKind.u64 yl, Value.int IntKind.u64 yh, Value.slice po pl pc] 31)) hb1
  have HbA : Hid (Below w.heap.size w w1) := hW.trans (hb1.mono hW.size)
  have HS1 : Hid (Sents A w1) := hS1.below hb1 (Nat.le_refl _)
  have HB0 : Hid (w1.heap[w.heap.size]? = _) := B0
  clear hW hS hS1 hb1 B0
  go_wp2_with fail
  refine (plainMake_any A xl xh _ H1.out H2.out HS1.out).mono ?_
  rintro e w2 ⟨rfl, hb2⟩
  have B0 := blk_below HB0.out hb2
  have HbB : Hid (Below w.heap.size w w2) := HbA.out.trans (hb2.mono HbA.out.size)
  clear HbA HS1 HB0 hb2
  generalize hmk : makeN xl xh = r
  have HMK : Hid (makeN xl xh = r) := hmk
  clear hmk
  obtain ⟨rl, rh, rk⟩ := r
  dsimp only
  obtain ⟨-, -, -, -, k4, k5, -, -, -⟩ := blk9 B0
  have hz : w.heap.size < w2.heap.size := (Array.getElem?_eq_some_iff.1 B0).1
  go_wp2_with fail
  refine (refMake_any xl xh _ H1.out H2.out).mono ?_
  rintro e w3 ⟨rfl, hb3⟩
  rw [HMK.out]
  dsimp only
  have B3 := blk_below (blk_new w2 (Obj.cells #[Value.int IntKind.u64 rl, Value.int IntKind.u64 rh] 33)) hb3
  have HbC : Hid (Below w.heap.size w w3) := (HbB.out.alloc HbB.out.size _).trans (hb3.mono (by have := HbB.out.size; simp; omega))
  obtain ⟨j0, j1, -, -⟩ := blk2 B3
  have hz3 : w2.heap.size < w3.heap.size := (Array.getElem?_eq_some_iff.1 B3).1
  clear HbB hb3 B0 k4 k5 hz B3 H1 H2
  go_wp2_with fail
  refine (same_eq _ _ _).mono ?_
  rintro e w4 ⟨rfl, hb4⟩
  have hbD : Below w.heap.size w w4 := (HbC.out.alloc HbC.out.size _).trans (hb4.mono (by have := HbC.out.size; simp; omega))
  clear HbC hb4 j0 j1 hz3
  go_wp2
  go_ret
  exact ⟨rfl, hbD⟩
end Go.Proofs.YtonhpkigoplmaaaGreatDoor
namespace Go.Proofs.YtonhpkigoplmaaaGreatDoor
open Go.RowKit

/-- A script's steps as they lie in memory. -/
structure Script where
  k : Nat → Int
  a : Nat → Int
  b : Nat → Int
  s : Nat → ByteArray
  xl : Nat → Nat
  xh : Nat → Nat
  yl : Nat → Nat
  yh : Nat → Nat
  po : Nat → Option Addr
  pl : Nat → Nat
  pc : Nat → Nat

/-- The i-th step as a value. -/
def Script.val (z : Script) (i : Nat) : Value := .agg #[.int .i64 (z.k i), .int .i64 (z.a i), .int .i64 (z.b i), .string (z.s i), .int .u64 (z.xl i : Int), .int .u64 (z.xh i : Int), .int .u64 (z.yl i : Int), .int .u64 (z.yh i : Int), .slice (z.po i) (z.pl i) (z.pc i)]

/-- n steps lie from an address on. -/
def Script.at (z : Script) (w : World) (g off n : Nat) : Prop :=
  ∀ i, i < n → w.cell? ⟨g, off + i * 9, none⟩ = some (.int .i64 (z.k i)) ∧ w.cell? ⟨g, off + i * 9 + 1, none⟩ = some (.int .i64 (z.a i)) ∧ w.cell? ⟨g, off + i * 9 + 2, none⟩ = some (.int .i64 (z.b i)) ∧ w.cell? ⟨g, off + i * 9 + 3, none⟩ = some (.string (z.s i)) ∧ w.cell? ⟨g, off + i * 9 + 4, none⟩ = some (.int .u64 (z.xl i : Int)) ∧ w.cell? ⟨g, off + i * 9 + 5, none⟩ = some (.int .u64 (z.xh i : Int)) ∧ w.cell? ⟨g, off + i * 9 + 6, none⟩ = some (.int .u64 (z.yl i : Int)) ∧ w.cell? ⟨g, off + i * 9 + 7, none⟩ = some (.int .u64 (z.yh i : Int)) ∧ w.cell? ⟨g, off + i * 9 + 8, none⟩ = some (.slice (z.po i) (z.pl i) (z.pc i))

set_option maxHeartbeats 1000000 in
set_option maxRecDepth 20000 in
theorem upto_any (A : Nat → Addr) (z : Script) (ao : Option Addr) (n c : Nat) (lo hi : Int) (w : World) (hn : n ≤ 1466015503701) (hS : Sents A w)
    (hz : n = 0 ∨ ∃ g off, ao = some ⟨g, off, none⟩ ∧ g < w.heap.size ∧ z.at w g off n)
    (hp : ∀ i, i < n → lo ≤ z.k i → z.k i ≤ hi → ∀ W, Sents A W → Calls Tryz.prog 18 #[z.val i] W fun e W' => e = .returned (.bool true) ∧ Below W.heap.size W W') :
    Calls Tryz.prog 14 #[.slice ao n c, .int .i64 lo, .int .i64 hi] w fun e w' => e = .returned (.int .i64 (-1)) ∧ Below w.heap.size w w' := by
  have HP : Hid (∀ i, i < n → lo ≤ z.k i → z.k i ≤ hi → ∀ W, Sents A W → Calls Tryz.prog 18 #[z.val i] W fun e W' => e = .returned (.bool true) ∧ Below W.heap.size W W') := hp
  have HZ : Hid (n = 0 ∨ ∃ g off, ao = some ⟨g, off, none⟩ ∧ g < w.heap.size ∧ z.at w g off n) := hz
  have HS : Hid (Sents A w) := hS
  clear hp hz hS
  go_enter Tryz.func14, Tryz.ntmps14
  go_wp2
  have hM0 : (n : Int) ≤ 1152921504606846976 := by omega
  generalize (1152921504606846976 : Int) = M at *
  go_loopw [7] (fun v wr => ∃ i : Nat, i ≤ n ∧ v = .int .i64 (i : Int) ∧ Below w.heap.size w wr) (fun v _ => n - (intOf v).toNat)
  case atStart => exact ⟨0, Nat.zero_le _, rfl, Below.refl _ _⟩
  case round =>
    obtain ⟨i, hi1, rfl, hbr⟩ := hrel
    by_cases hin : i < n
    · have hiM : (i : Int) < M := by omega
      obtain ⟨g, off, rfl, hg, hat⟩ := HZ.out.resolve_left (by omega)
      obtain ⟨c0, c1, c2, c3, c4, c5, c6, c7, c8⟩ := hat i hin
      rw [← hbr.cell (by exact hg)] at c0 c1 c2 c3 c4 c5 c6 c7 c8
      have HSr : Hid (Sents A wr) := HS.out.below hbr (Nat.le_refl _)
      have HPi : Hid (lo ≤ z.k i → z.k i ≤ hi → ∀ W, Sents A W → Calls Tryz.prog 18 #[z.val i] W fun e W' => e = .returned (.bool true) ∧ Below W.heap.size W W') := HP.out i hin
      have Hbr : Hid (Below w.heap.size w wr) := hbr
      unfold Script.val at HPi
      clear hat HZ HP HS hg hbr
      generalize z.k i = zk at *
      generalize z.a i = za at *
      generalize z.b i = zb at *
      generalize z.s i = zs at *
      generalize z.xl i = zxl at *
      generalize z.xh i = zxh at *
      generalize z.yl i = zyl at *
      generalize z.yh i = zyh at *
      generalize z.po i = zpo at *
      generalize z.pl i = zpl at *
      generalize z.pc i = zpc at *
      by_cases hk1 : lo ≤ zk
      · by_cases hk2 : zk ≤ hi
        · go_wp2_with fail
          have hA1 : Below wr.heap.size wr (wr.alloc (Obj.cells #[Value.int IntKind.i64 zk, Value.int IntKind.i64 za, Value.int IntKind.i64 zb, Value.string zs, Value.int IntKind.u64 ↑zxl, Value.int IntKind.u64 ↑zxh, Value.int IntKind.u64 ↑zyl, Value.int IntKind.u64 ↑zyh, Value.slice zpo zpl zpc] 31)) := (Below.refl _ _).alloc (Nat.le_refl _) _
          refine Calls.mono (HPi.out hk1 hk2 _ (HSr.out.below hA1 (Nat.le_refl _))) ?_
          rintro e w1 ⟨rfl, hb1⟩
          have Hb1 : Hid (Below w.heap.size w w1) := (Hbr.out.alloc Hbr.out.size _).trans (hb1.mono (by have := Hbr.out.size; simp; omega))
          clear hA1 hb1 HPi HSr Hbr c0 c1 c2 c3 c4 c5 c6 c7 c8
          go_wp2
          go_roundw
          case rel => exact ⟨i + 1, by omega, by go_num, Hb1.out⟩
          case measure => simp [intOf]; omega
        · clear HPi HSr
          go_wp2
          go_roundw
          case rel => exact ⟨i + 1, by omega, by go_num, Hbr.out.alloc Hbr.out.size _⟩
          case measure => simp [intOf]; omega
      · clear HPi HSr
        go_wp2
        go_roundw
        case rel => exact ⟨i + 1, by omega, by go_num, Hbr.out.alloc Hbr.out.size _⟩
        case measure => simp [intOf]; omega
    · clear HZ HP HS
      go_wp2
      go_ret
      exact ⟨rfl, hbr⟩

theorem makes_any (A : Nat → Addr) (z : Script) (ao : Option Addr) (n c : Nat) (w : World) (hn : n ≤ 1466015503701) (hS : Sents A w)
    (hz : n = 0 ∨ ∃ g off, ao = some ⟨g, off, none⟩ ∧ g < w.heap.size ∧ z.at w g off n) (hx : ∀ i, i < n → z.xl i < 18446744073709551616 ∧ z.xh i < 18446744073709551616) :
    Calls Tryz.prog 3 #[.slice ao n c] w fun e w' => e = .returned (.bool true) ∧ Below w.heap.size w w' := by
  have HU := upto_any A z ao n c 1 1 w hn hS hz (fun i hi h1 h2 W hW => by
    have hk : z.k i = 1 := by omega
    unfold Script.val
    rw [hk]
    exact plays_make A _ _ _ _ _ _ _ _ _ _ W (hx i hi).1 (hx i hi).2 hW)
  clear hz hx hS hn
  have HU : Hid (Calls Tryz.prog 14 #[.slice ao n c, .int .i64 1, .int .i64 1] w fun e w' => e = .returned (.int .i64 (-1)) ∧ Below w.heap.size w w') := HU
  go_enter Tryz.func3, Tryz.ntmps3
  go_wp2_with fail
  refine Calls.mono HU.out ?_
  rintro e w1 ⟨rfl, hb1⟩
  clear HU
  go_wp2
  go_ret
  exact ⟨rfl, hb1⟩
end Go.Proofs.YtonhpkigoplmaaaGreatDoor
namespace Go.Proofs.YtonhpkigoplmaaaGreatDoor
open Go.RowKit

/-- A step's box while calls go on. -/
structure LSt (w W : World) (c : Array Value) : Prop where
  k0 : W.heap[w.heap.size]? = some (.cells c 31 (0, 0))
  hb : Below w.heap.size w W
  sz : w.heap.size + 1 ≤ W.heap.size
theorem LSt.below {w W W' : World} {c : Array Value} (m : LSt w W c) (hb : Below W.heap.size W W') : LSt w W' c := ⟨blk_below m.k0 hb, m.hb.trans (hb.mono m.hb.size), Nat.le_trans m.sz hb.size⟩
theorem LSt.alloc {w W : World} {c : Array Value} (m : LSt w W c) (o : Obj) : LSt w (W.alloc o) c := m.below ((Below.refl _ _).alloc (Nat.le_refl _) o)
theorem LSt.drew {w W : World} {c : Array Value} (m : LSt w W c) : LSt w W.drew c := ⟨m.k0, m.hb.drew, m.sz⟩
theorem LSt.cells {w W : World} {c0 c1 c2 c3 c4 c5 c6 c7 c8 : Value} (m : LSt w W #[c0, c1, c2, c3, c4, c5, c6, c7, c8]) : W.cell? ⟨w.heap.size, 1, none⟩ = some c1 ∧ W.cell? ⟨w.heap.size, 3, none⟩ = some c3 ∧ W.cell? ⟨w.heap.size, 4, none⟩ = some c4 ∧ W.cell? ⟨w.heap.size, 5, none⟩ = some c5 ∧ W.cell? ⟨w.heap.size, 6, none⟩ = some c6 ∧ W.cell? ⟨w.heap.size, 7, none⟩ = some c7 := by
  obtain ⟨-, k1, -, k3, k4, k5, k6, k7, -⟩ := blk9 m.k0
  exact ⟨k1, k3, k4, k5, k6, k7⟩

/-- A new box of package plain. -/
def PBox (w W : World) (g : Nat) (x y : Value) : Prop := W.heap[g]? = some (.cells #[x, y] 33 (0, 0)) ∧ w.heap.size + 1 ≤ g
theorem PBox.below {w W W' : World} {g : Nat} {x y : Value} (h : PBox w W g x y) (hb : Below W.heap.size W W') : PBox w W' g x y := ⟨blk_below h.1 hb, h.2⟩
theorem PBox.drew {w W : World} {g : Nat} {x y : Value} (h : PBox w W g x y) : PBox w W.drew g x y := h
theorem PBox.new {w W : World} {x y : Value} (h : w.heap.size + 1 ≤ W.heap.size) : PBox w (W.alloc (Obj.cells #[x, y] 33)) W.heap.size x y := ⟨blk_new W _, h⟩
theorem PBox.same {w W : World} {g : Nat} {x y : Value} (h : PBox w W g x y) (u v : Value) : PBox w ((W.setCell ⟨g, 0, none⟩ u).setCell ⟨g, 1, none⟩ v) g u v := ⟨blk_store2 h.1, h.2⟩
theorem LSt.set2 {w W : World} {g : Nat} {x y : Value} {c : Array Value} (m : LSt w W c) (z : PBox w W g x y) (u v : Value) : LSt w ((W.setCell ⟨g, 0, none⟩ u).setCell ⟨g, 1, none⟩ v) c := by
  have e0 : w.heap.size ≠ g := by have := z.2; omega
  have e3 : w.heap.size ≤ g := by have := z.2; omega
  exact ⟨blk_set_ne (blk_set_ne m.k0 e0) e0, (m.hb.setCell (by exact e3) _).setCell (by exact e3) _, by simp only [World.size_setCell]; exact m.sz⟩

set_option maxHeartbeats 4000000 in
set_option maxRecDepth 100000 in
theorem plays_op (A : Nat → Addr) (a b : Int) (s : ByteArray) (xl xh yl yh : Nat) (po : Option Addr) (pl pc : Nat) (r1 r2 r3 : Nat) (rs : ByteArray) (w : World) (hS : Sents A w)
    (hp : ∀ W, Sents A W → Calls Tryz.prog 21 #[.int .i64 a, .agg #[.int .u64 (xl : Int), .int .u64 (xh : Int)], .agg #[.int .u64 (yl : Int), .int .u64 (yh : Int)]] W fun e w' => e = .returned (.tuple #[.agg #[.int .u64 (r1 : Int), .int .u64 (r2 : Int)], .int .i64 (r3 : Int), .string rs]) ∧ Below W.heap.size W w')
    (hq : ∀ W, Calls Tryz.prog 29 #[.int .i64 a, .agg #[.int .u64 (xl : Int), .int .u64 (xh : Int)], .agg #[.int .u64 (yl : Int), .int .u64 (yh : Int)]] W fun e w' => e = .returned (.tuple #[.agg #[.int .u64 (r1 : Int), .int .u64 (r2 : Int)], .int .i64 (r3 : Int), .string rs]) ∧ Below W.heap.size W w') :
    Calls Tryz.prog 18 #[.agg #[Value.int IntKind.i64 2, Value.int IntKind.i64 a, Value.int IntKind.i64 b, Value.string s, Value.int IntKind.u64 (xl : Int), Value.int IntKind.u64 (xh : Int), Value.int IntKind.u64 (yl : Int), Value.int IntKind.u64 (yh : Int), Value.slice po pl pc]] w fun e w' => e = .returned (.bool true) ∧ Below w.heap.size w w' := by
  have HP : Hid (∀ W, Below w.heap.size w W → Calls Tryz.prog 21 #[.int .i64 a, .agg #[.int .u64 (xl : Int), .int .u64 (xh : Int)], .agg #[.int .u64 (yl : Int), .int .u64 (yh : Int)]] W fun e w' => e = .returned (.tuple #[.agg #[.int .u64 (r1 : Int), .int .u64 (r2 : Int)], .int .i64 (r3 : Int), .string rs]) ∧ Below W.heap.size W w') := fun W hb => hp W (hS.below hb (Nat.le_refl _))
  have HQ : Hid (∀ W, Calls Tryz.prog 29 #[.int .i64 a, .agg #[.int .u64 (xl : Int), .int .u64 (xh : Int)], .agg #[.int .u64 (yl : Int), .int .u64 (yh : Int)]] W fun e w' => e = .returned (.tuple #[.agg #[.int .u64 (r1 : Int), .int .u64 (r2 : Int)], .int .i64 (r3 : Int), .string rs]) ∧ Below W.heap.size W w') := hq
  have H1 : Hid (∀ W, Calls Tryz.prog 26 #[.agg #[.int .u64 (xl : Int), .int .u64 (xh : Int)]] W fun e w' => e = .returned (.agg #[.int .u64 (xl : Int), .int .u64 (xh : Int)]) ∧ Below W.heap.size W w') := fun W => lawBox_any _ _ W
  have H2 : Hid (∀ W, Calls Tryz.prog 26 #[.agg #[.int .u64 (yl : Int), .int .u64 (yh : Int)]] W fun e w' => e = .returned (.agg #[.int .u64 (yl : Int), .int .u64 (yh : Int)]) ∧ Below W.heap.size W w') := fun W => lawBox_any _ _ W
  clear hp hq hS
  go_enter Tryz.func18, Tryz.ntmps18
  go_wp2_with fail
  have m1 : Hid (LSt w (w.alloc (Obj.cells #[Value.int IntKind.i64 2, Value.int IntKind.i64 a, Value.int IntKind.i64 b, Value.string s, Value.int IntKind.u64 (xl : Int), Value.int IntKind.u64 (xh : Int), Value.int IntKind.u64 (yl : Int), Value.int IntKind.u64 (yh : Int), Value.slice po pl pc] 31)) #[Value.int IntKind.i64 2, Value.int IntKind.i64 a, Value.int IntKind.i64 b, Value.string s, Value.int IntKind.u64 (xl : Int), Value.int IntKind.u64 (xh : Int), Value.int IntKind.u64 (yl : Int), Value.int IntKind.u64 (yh : Int), Value.slice po pl pc]) := ⟨blk_new w _, (Below.refl _ _).alloc (Nat.le_refl _) _, by simp⟩
  generalize (w.alloc (Obj.cells #[Value.int IntKind.i64 2, Value.int IntKind.i64 a, Value.int IntKind.i64 b, Value.string s, Value.int IntKind.u64 (xl : Int), Value.int IntKind.u64 (xh : Int), Value.int IntKind.u64 (yl : Int), Value.int IntKind.u64 (yh : Int), Value.slice po pl pc] 31)) = W2 at *
  go_cut [8, 9, 10] (fun s8 s9 s10 wc => ∃ g, s8 = .pointer (some ⟨g, 0, none⟩) ∧ s9 = .int .i64 (r3 : Int) ∧ s10 = .string rs ∧ LSt w wc #[Value.int IntKind.i64 2, Value.int IntKind.i64 a, Value.int IntKind.i64 b, Value.string s, Value.int IntKind.u64 (xl : Int), Value.int IntKind.u64 (xh : Int), Value.int IntKind.u64 (yl : Int), Value.int IntKind.u64 (yh : Int), Value.slice po pl pc] ∧ PBox w wc g (.int .u64 (r1 : Int)) (.int .u64 (r2 : Int)))
  case first =>
    have iN : Hid (LSt w W2.drew #[Value.int IntKind.i64 2, Value.int IntKind.i64 a, Value.int IntKind.i64 b, Value.string s, Value.int IntKind.u64 (xl : Int), Value.int IntKind.u64 (xh : Int), Value.int IntKind.u64 (yl : Int), Value.int IntKind.u64 (yh : Int), Value.slice po pl pc]) := m1.out.drew
    go_region_held3 (fun W => W.cell? ⟨w.heap.size, 1, none⟩ = some (.int .i64 a) ∧ W.cell? ⟨w.heap.size, 3, none⟩ = some (.string s) ∧ W.cell? ⟨w.heap.size, 4, none⟩ = some (.int .u64 (xl : Int)) ∧ W.cell? ⟨w.heap.size, 5, none⟩ = some (.int .u64 (xh : Int)) ∧ W.cell? ⟨w.heap.size, 6, none⟩ = some (.int .u64 (yl : Int)) ∧ W.cell? ⟨w.heap.size, 7, none⟩ = some (.int .u64 (yh : Int))) (first | with_reducible exact iN.out.cells | with_reducible exact (m1.out.alloc _).drew.cells | with_reducible exact (iN.out.alloc _).cells | with_reducible exact (iN.out.set2 zf.out _ _).cells)
      (first
        | (go_at_call 26; with_reducible (refine Calls.mono (H1.out _) ?_); rintro e v0 ⟨rfl, hbk⟩
           have iN : Hid (LSt w v0 #[Value.int IntKind.i64 2, Value.int IntKind.i64 a, Value.int IntKind.i64 b, Value.string s, Value.int IntKind.u64 (xl : Int), Value.int IntKind.u64 (xh : Int), Value.int IntKind.u64 (yl : Int), Value.int IntKind.u64 (yh : Int), Value.slice po pl pc]) := iN.out.below hbk
           clear hbk)
        | (go_at_call 26; with_reducible (refine Calls.mono (H1.out _) ?_); rintro e v0 ⟨rfl, hbk⟩
           have zf : Hid (PBox w v0 _ _ _) := (PBox.new m1.out.sz).drew.below hbk
           have iN : Hid (LSt w v0 #[Value.int IntKind.i64 2, Value.int IntKind.i64 a, Value.int IntKind.i64 b, Value.string s, Value.int IntKind.u64 (xl : Int), Value.int IntKind.u64 (xh : Int), Value.int IntKind.u64 (yl : Int), Value.int IntKind.u64 (yh : Int), Value.slice po pl pc]) := (m1.out.alloc _).drew.below hbk
           clear hbk)
        | (go_at_call 26; with_reducible (refine Calls.mono (H2.out _) ?_); rintro e v1 ⟨rfl, hbk⟩
           try (have zf : Hid (PBox w v1 _ _ _) := zf.out.below hbk)
           have iN : Hid (LSt w v1 #[Value.int IntKind.i64 2, Value.int IntKind.i64 a, Value.int IntKind.i64 b, Value.string s, Value.int IntKind.u64 (xl : Int), Value.int IntKind.u64 (xh : Int), Value.int IntKind.u64 (yl : Int), Value.int IntKind.u64 (yh : Int), Value.slice po pl pc]) := iN.out.below hbk
           clear hbk)
        | (go_at_call 26; with_reducible (refine Calls.mono (H2.out _) ?_); rintro e v1 ⟨rfl, hbk⟩
           have zf : Hid (PBox w v1 _ _ _) := (PBox.new iN.out.sz).below hbk
           have iN : Hid (LSt w v1 #[Value.int IntKind.i64 2, Value.int IntKind.i64 a, Value.int IntKind.i64 b, Value.string s, Value.int IntKind.u64 (xl : Int), Value.int IntKind.u64 (xh : Int), Value.int IntKind.u64 (yl : Int), Value.int IntKind.u64 (yh : Int), Value.slice po pl pc]) := (iN.out.alloc _).below hbk
           clear hbk)
        | (go_at_call 21; with_reducible (refine Calls.mono (HP.out _ ?_) ?_); (with_reducible exact iN.out.hb); rintro e v2 ⟨rfl, hbk⟩
           try (have zf : Hid (PBox w v2 _ _ _) := zf.out.below hbk; obtain ⟨zc0, zc1, zc2, zc3⟩ := blk2 zf.out.1)
           have iN : Hid (LSt w v2 #[Value.int IntKind.i64 2, Value.int IntKind.i64 a, Value.int IntKind.i64 b, Value.string s, Value.int IntKind.u64 (xl : Int), Value.int IntKind.u64 (xh : Int), Value.int IntKind.u64 (yl : Int), Value.int IntKind.u64 (yh : Int), Value.slice po pl pc]) := iN.out.below hbk
           clear hbk)
        | (go_at_call 21; with_reducible (refine Calls.mono (HP.out _ ?_) ?_); (with_reducible exact (iN.out.alloc _).hb); rintro e v2 ⟨rfl, hbk⟩
           have zf : Hid (PBox w v2 _ _ _) := (PBox.new iN.out.sz).below hbk
           obtain ⟨zc0, zc1, zc2, zc3⟩ := blk2 zf.out.1
           have iN : Hid (LSt w v2 #[Value.int IntKind.i64 2, Value.int IntKind.i64 a, Value.int IntKind.i64 b, Value.string s, Value.int IntKind.u64 (xl : Int), Value.int IntKind.u64 (xh : Int), Value.int IntKind.u64 (yl : Int), Value.int IntKind.u64 (yh : Int), Value.slice po pl pc]) := (iN.out.alloc _).below hbk
           clear hbk))
    all_goals (go_wp2_with fail; go_meet; refine ⟨_, rfl, rfl, rfl, ?_, ?_⟩)
    all_goals first | with_reducible exact iN.out.set2 zf.out _ _ | with_reducible exact zf.out.same _ _ | with_reducible exact iN.out.alloc _ | with_reducible exact PBox.new iN.out.sz
  case rest =>
    clear HP H1 H2 m1
    obtain ⟨g, rfl, rfl, rfl, hL, hB⟩ := hcut
    have ML : Hid (LSt w wc #[Value.int IntKind.i64 2, Value.int IntKind.i64 a, Value.int IntKind.i64 b, Value.string s, Value.int IntKind.u64 (xl : Int), Value.int IntKind.u64 (xh : Int), Value.int IntKind.u64 (yl : Int), Value.int IntKind.u64 (yh : Int), Value.slice po pl pc]) := hL
    have MB : Hid (PBox w wc g (.int .u64 (r1 : Int)) (.int .u64 (r2 : Int))) := hB
    obtain ⟨k1, k3, k4, k5, k6, k7⟩ := hL.cells
    clear hL hB
    go_wp2_with fail
    refine Calls.mono (HQ.out _) ?_
    rintro e w3 ⟨rfl, hb3⟩
    have ML3 : Hid (LSt w w3 #[Value.int IntKind.i64 2, Value.int IntKind.i64 a, Value.int IntKind.i64 b, Value.string s, Value.int IntKind.u64 (xl : Int), Value.int IntKind.u64 (xh : Int), Value.int IntKind.u64 (yl : Int), Value.int IntKind.u64 (yh : Int), Value.slice po pl pc]) := ML.out.below hb3
    obtain ⟨j0, j1, -, -⟩ := blk2 (MB.out.below hb3).1
    have lj := lt_of_row (MB.out.below hb3).1
    clear hb3 k1 k3 k4 k5 k6 k7 ML MB HQ
    go_wp2_with fail
    refine (same_eq _ _ _).mono ?_
    rintro e w4 ⟨rfl, hb4⟩
    have hbD : Below w.heap.size w w4 := (ML3.out.hb.alloc ML3.out.hb.size _).trans (hb4.mono (by have := ML3.out.hb.size; simp; omega))
    clear ML3 hb4 j0 j1 lj
    go_wp2
    go_ret
    exact ⟨rfl, hbD⟩

set_option maxHeartbeats 4000000 in
set_option maxRecDepth 100000 in
theorem plays_apply (A : Nat → Addr) (a b : Int) (s : ByteArray) (xl xh yl yh : Nat) (po : Option Addr) (pl pc : Nat) (r1 r2 r3 : Nat) (rs : ByteArray) (w : World) (hS : Sents A w)
    (hp : ∀ W, Sents A W → Calls Tryz.prog 30 #[.string s, .agg #[.int .u64 (xl : Int), .int .u64 (xh : Int)], .agg #[.int .u64 (yl : Int), .int .u64 (yh : Int)]] W fun e w' => e = .returned (.tuple #[.agg #[.int .u64 (r1 : Int), .int .u64 (r2 : Int)], .int .i64 (r3 : Int), .string rs]) ∧ Below W.heap.size W w')
    (hq : ∀ W, Calls Tryz.prog 31 #[.string s, .agg #[.int .u64 (xl : Int), .int .u64 (xh : Int)], .agg #[.int .u64 (yl : Int), .int .u64 (yh : Int)]] W fun e w' => e = .returned (.tuple #[.agg #[.int .u64 (r1 : Int), .int .u64 (r2 : Int)], .int .i64 (r3 : Int), .string rs]) ∧ Below W.heap.size W w') :
    Calls Tryz.prog 18 #[.agg #[Value.int IntKind.i64 3, Value.int IntKind.i64 a, Value.int IntKind.i64 b, Value.string s, Value.int IntKind.u64 (xl : Int), Value.int IntKind.u64 (xh : Int), Value.int IntKind.u64 (yl : Int), Value.int IntKind.u64 (yh : Int), Value.slice po pl pc]] w fun e w' => e = .returned (.bool true) ∧ Below w.heap.size w w' := by
  have HP : Hid (∀ W, Below w.heap.size w W → Calls Tryz.prog 30 #[.string s, .agg #[.int .u64 (xl : Int), .int .u64 (xh : Int)], .agg #[.int .u64 (yl : Int), .int .u64 (yh : Int)]] W fun e w' => e = .returned (.tuple #[.agg #[.int .u64 (r1 : Int), .int .u64 (r2 : Int)], .int .i64 (r3 : Int), .string rs]) ∧ Below W.heap.size W w') := fun W hb => hp W (hS.below hb (Nat.le_refl _))
  have HQ : Hid (∀ W, Calls Tryz.prog 31 #[.string s, .agg #[.int .u64 (xl : Int), .int .u64 (xh : Int)], .agg #[.int .u64 (yl : Int), .int .u64 (yh : Int)]] W fun e w' => e = .returned (.tuple #[.agg #[.int .u64 (r1 : Int), .int .u64 (r2 : Int)], .int .i64 (r3 : Int), .string rs]) ∧ Below W.heap.size W w') := hq
  have H1 : Hid (∀ W, Calls Tryz.prog 26 #[.agg #[.int .u64 (xl : Int), .int .u64 (xh : Int)]] W fun e w' => e = .returned (.agg #[.int .u64 (xl : Int), .int .u64 (xh : Int)]) ∧ Below W.heap.size W w') := fun W => lawBox_any _ _ W
  have H2 : Hid (∀ W, Calls Tryz.prog 26 #[.agg #[.int .u64 (yl : Int), .int .u64 (yh : Int)]] W fun e w' => e = .returned (.agg #[.int .u64 (yl : Int), .int .u64 (yh : Int)]) ∧ Below W.heap.size W w') := fun W => lawBox_any _ _ W
  clear hp hq hS
  go_enter Tryz.func18, Tryz.ntmps18
  go_wp2_with fail
  have m1 : Hid (LSt w (w.alloc (Obj.cells #[Value.int IntKind.i64 3, Value.int IntKind.i64 a, Value.int IntKind.i64 b, Value.string s, Value.int IntKind.u64 (xl : Int), Value.int IntKind.u64 (xh : Int), Value.int IntKind.u64 (yl : Int), Value.int IntKind.u64 (yh : Int), Value.slice po pl pc] 31)) #[Value.int IntKind.i64 3, Value.int IntKind.i64 a, Value.int IntKind.i64 b, Value.string s, Value.int IntKind.u64 (xl : Int), Value.int IntKind.u64 (xh : Int), Value.int IntKind.u64 (yl : Int), Value.int IntKind.u64 (yh : Int), Value.slice po pl pc]) := ⟨blk_new w _, (Below.refl _ _).alloc (Nat.le_refl _) _, by simp⟩
  generalize (w.alloc (Obj.cells #[Value.int IntKind.i64 3, Value.int IntKind.i64 a, Value.int IntKind.i64 b, Value.string s, Value.int IntKind.u64 (xl : Int), Value.int IntKind.u64 (xh : Int), Value.int IntKind.u64 (yl : Int), Value.int IntKind.u64 (yh : Int), Value.slice po pl pc] 31)) = W2 at *
  go_cut [15, 16, 17] (fun s8 s9 s10 wc => ∃ g, s8 = .pointer (some ⟨g, 0, none⟩) ∧ s9 = .int .i64 (r3 : Int) ∧ s10 = .string rs ∧ LSt w wc #[Value.int IntKind.i64 3, Value.int IntKind.i64 a, Value.int IntKind.i64 b, Value.string s, Value.int IntKind.u64 (xl : Int), Value.int IntKind.u64 (xh : Int), Value.int IntKind.u64 (yl : Int), Value.int IntKind.u64 (yh : Int), Value.slice po pl pc] ∧ PBox w wc g (.int .u64 (r1 : Int)) (.int .u64 (r2 : Int)))
  case first =>
    have iN : Hid (LSt w W2.drew #[Value.int IntKind.i64 3, Value.int IntKind.i64 a, Value.int IntKind.i64 b, Value.string s, Value.int IntKind.u64 (xl : Int), Value.int IntKind.u64 (xh : Int), Value.int IntKind.u64 (yl : Int), Value.int IntKind.u64 (yh : Int), Value.slice po pl pc]) := m1.out.drew
    go_region_held3 (fun W => W.cell? ⟨w.heap.size, 1, none⟩ = some (.int .i64 a) ∧ W.cell? ⟨w.heap.size, 3, none⟩ = some (.string s) ∧ W.cell? ⟨w.heap.size, 4, none⟩ = some (.int .u64 (xl : Int)) ∧ W.cell? ⟨w.heap.size, 5, none⟩ = some (.int .u64 (xh : Int)) ∧ W.cell? ⟨w.heap.size, 6, none⟩ = some (.int .u64 (yl : Int)) ∧ W.cell? ⟨w.heap.size, 7, none⟩ = some (.int .u64 (yh : Int))) (first | with_reducible exact iN.out.cells | with_reducible exact (m1.out.alloc _).drew.cells | with_reducible exact (iN.out.alloc _).cells | with_reducible exact (iN.out.set2 zf.out _ _).cells)
      (first
        | (go_at_call 26; with_reducible (refine Calls.mono (H1.out _) ?_); rintro e v0 ⟨rfl, hbk⟩
           have iN : Hid (LSt w v0 #[Value.int IntKind.i64 3, Value.int IntKind.i64 a, Value.int IntKind.i64 b, Value.string s, Value.int IntKind.u64 (xl : Int), Value.int IntKind.u64 (xh : Int), Value.int IntKind.u64 (yl : Int), Value.int IntKind.u64 (yh : Int), Value.slice po pl pc]) := iN.out.below hbk
           clear hbk)
        | (go_at_call 26; with_reducible (refine Calls.mono (H1.out _) ?_); rintro e v0 ⟨rfl, hbk⟩
           have zf : Hid (PBox w v0 _ _ _) := (PBox.new m1.out.sz).drew.below hbk
           have iN : Hid (LSt w v0 #[Value.int IntKind.i64 3, Value.int IntKind.i64 a, Value.int IntKind.i64 b, Value.string s, Value.int IntKind.u64 (xl : Int), Value.int IntKind.u64 (xh : Int), Value.int IntKind.u64 (yl : Int), Value.int IntKind.u64 (yh : Int), Value.slice po pl pc]) := (m1.out.alloc _).drew.below hbk
           clear hbk)
        | (go_at_call 26; with_reducible (refine Calls.mono (H2.out _) ?_); rintro e v1 ⟨rfl, hbk⟩
           try (have zf : Hid (PBox w v1 _ _ _) := zf.out.below hbk)
           have iN : Hid (LSt w v1 #[Value.int IntKind.i64 3, Value.int IntKind.i64 a, Value.int IntKind.i64 b, Value.string s, Value.int IntKind.u64 (xl : Int), Value.int IntKind.u64 (xh : Int), Value.int IntKind.u64 (yl : Int), Value.int IntKind.u64 (yh : Int), Value.slice po pl pc]) := iN.out.below hbk
           clear hbk)
        | (go_at_call 26; with_reducible (refine Calls.mono (H2.out _) ?_); rintro e v1 ⟨rfl, hbk⟩
           have zf : Hid (PBox w v1 _ _ _) := (PBox.new iN.out.sz).below hbk
           have iN : Hid (LSt w v1 #[Value.int IntKind.i64 3, Value.int IntKind.i64 a, Value.int IntKind.i64 b, Value.string s, Value.int IntKind.u64 (xl : Int), Value.int IntKind.u64 (xh : Int), Value.int IntKind.u64 (yl : Int), Value.int IntKind.u64 (yh : Int), Value.slice po pl pc]) := (iN.out.alloc _).below hbk
           clear hbk)
        | (go_at_call 30; with_reducible (refine Calls.mono (HP.out _ ?_) ?_); (with_reducible exact iN.out.hb); rintro e v2 ⟨rfl, hbk⟩
           try (have zf : Hid (PBox w v2 _ _ _) := zf.out.below hbk; obtain ⟨zc0, zc1, zc2, zc3⟩ := blk2 zf.out.1)
           have iN : Hid (LSt w v2 #[Value.int IntKind.i64 3, Value.int IntKind.i64 a, Value.int IntKind.i64 b, Value.string s, Value.int IntKind.u64 (xl : Int), Value.int IntKind.u64 (xh : Int), Value.int IntKind.u64 (yl : Int), Value.int IntKind.u64 (yh : Int), Value.slice po pl pc]) := iN.out.below hbk
           clear hbk)
        | (go_at_call 30; with_reducible (refine Calls.mono (HP.out _ ?_) ?_); (with_reducible exact (iN.out.alloc _).hb); rintro e v2 ⟨rfl, hbk⟩
           have zf : Hid (PBox w v2 _ _ _) := (PBox.new iN.out.sz).below hbk
           obtain ⟨zc0, zc1, zc2, zc3⟩ := blk2 zf.out.1
           have iN : Hid (LSt w v2 #[Value.int IntKind.i64 3, Value.int IntKind.i64 a, Value.int IntKind.i64 b, Value.string s, Value.int IntKind.u64 (xl : Int), Value.int IntKind.u64 (xh : Int), Value.int IntKind.u64 (yl : Int), Value.int IntKind.u64 (yh : Int), Value.slice po pl pc]) := (iN.out.alloc _).below hbk
           clear hbk))
    all_goals (go_wp2_with fail; go_meet; refine ⟨_, rfl, rfl, rfl, ?_, ?_⟩)
    all_goals first | with_reducible exact iN.out.set2 zf.out _ _ | with_reducible exact zf.out.same _ _ | with_reducible exact iN.out.alloc _ | with_reducible exact PBox.new iN.out.sz
  case rest =>
    clear HP H1 H2 m1
    obtain ⟨g, rfl, rfl, rfl, hL, hB⟩ := hcut
    have ML : Hid (LSt w wc #[Value.int IntKind.i64 3, Value.int IntKind.i64 a, Value.int IntKind.i64 b, Value.string s, Value.int IntKind.u64 (xl : Int), Value.int IntKind.u64 (xh : Int), Value.int IntKind.u64 (yl : Int), Value.int IntKind.u64 (yh : Int), Value.slice po pl pc]) := hL
    have MB : Hid (PBox w wc g (.int .u64 (r1 : Int)) (.int .u64 (r2 : Int))) := hB
    obtain ⟨k1, k3, k4, k5, k6, k7⟩ := hL.cells
    clear hL hB
    go_wp2_with fail
    refine Calls.mono (HQ.out _) ?_
    rintro e w3 ⟨rfl, hb3⟩
    have ML3 : Hid (LSt w w3 #[Value.int IntKind.i64 3, Value.int IntKind.i64 a, Value.int IntKind.i64 b, Value.string s, Value.int IntKind.u64 (xl : Int), Value.int IntKind.u64 (xh : Int), Value.int IntKind.u64 (yl : Int), Value.int IntKind.u64 (yh : Int), Value.slice po pl pc]) := ML.out.below hb3
    obtain ⟨j0, j1, -, -⟩ := blk2 (MB.out.below hb3).1
    have lj := lt_of_row (MB.out.below hb3).1
    clear hb3 k1 k3 k4 k5 k6 k7 ML MB HQ
    go_wp2_with fail
    refine (same_eq _ _ _).mono ?_
    rintro e w4 ⟨rfl, hb4⟩
    have hbD : Below w.heap.size w w4 := (ML3.out.hb.alloc ML3.out.hb.size _).trans (hb4.mono (by have := ML3.out.hb.size; simp; omega))
    clear ML3 hb4 j0 j1 lj
    go_wp2
    go_ret
    exact ⟨rfl, hbD⟩

end Go.Proofs.YtonhpkigoplmaaaGreatDoor
namespace Go.Proofs.YtonhpkigoplmaaaGreatDoor
open Go.RowKit

theorem ops_any (A : Nat → Addr) (z : Script) (ao : Option Addr) (n c : Nat) (w : World) (hn : n ≤ 1466015503701) (hS : Sents A w)
    (hz : n = 0 ∨ ∃ g off, ao = some ⟨g, off, none⟩ ∧ g < w.heap.size ∧ z.at w g off n) (hx : ∀ i, i < n → z.xl i < 18446744073709551616 ∧ z.xh i < 18446744073709551616 ∧ z.yl i < 18446744073709551616 ∧ z.yh i < 18446744073709551616) :
    Calls Tryz.prog 4 #[.slice ao n c] w fun e w' => e = .returned (.bool true) ∧ Below w.heap.size w w' := by
  have HU := upto_any A z ao n c 2 2 w hn hS hz (fun i hi h1 h2 W hW => by
    have hk : z.k i = 2 := by omega
    unfold Script.val
    rw [hk]
    obtain ⟨x1, x2, x3, x4⟩ := hx i hi
    exact plays_op A _ _ _ _ _ _ _ _ _ _ _ _ _ _ W hW (fun W hS => plainOp_ref A _ _ _ _ _ W hS x1 x2 x3 x4 _ _ _ _ rfl rfl rfl rfl _ rfl) (fun W => refOp_any _ _ _ _ _ W x1 x2 x3 x4 _ _ _ _ rfl rfl rfl rfl _ rfl))
  clear hz hx hS hn
  have HU : Hid (Calls Tryz.prog 14 #[.slice ao n c, .int .i64 2, .int .i64 2] w fun e w' => e = .returned (.int .i64 (-1)) ∧ Below w.heap.size w w') := HU
  go_enter Tryz.func4, Tryz.ntmps4
  go_wp2_with fail
  refine Calls.mono HU.out ?_
  rintro e w1 ⟨rfl, hb1⟩
  clear HU
  go_wp2
  go_ret
  exact ⟨rfl, hb1⟩
end Go.Proofs.YtonhpkigoplmaaaGreatDoor
namespace Go.Proofs.YtonhpkigoplmaaaGreatDoor
open Go.RowKit Go.Deep Go.ChangeShapes Go.WideShapes

theorem k_cellsOp : Tryz.prog.cellsOf 31 = 9 := by kernel_rfl
theorem k_cellsBox : Tryz.prog.cellsOf 28 = 2 := by kernel_rfl
theorem k_cells_int : Tryz.prog.cellsOf 3 = 1 := by kernel_rfl
theorem k_cells_u64 : Tryz.prog.cellsOf 26 = 1 := by kernel_rfl
theorem k_cells_str : Tryz.prog.cellsOf 9 = 1 := by kernel_rfl
theorem k_cells_p : Tryz.prog.cellsOf 29 = 1 := by kernel_rfl

section
variable {H : Type} {enc : TypeId × Value → H} {W : World} {base : Nat} {spare : Nat → Bool} {held : Bool}

theorem u64_wf {n : Int} (h : (Lit.int .u64 n).wf = true) : ∃ m : Nat, n = (m : Int) ∧ m < 18446744073709551616 := by
  have hb := bounds_u64 h
  exact ⟨n.toNat, by omega, by omega⟩

theorem box_cells {fuel : Nat} {a b : Value} {x : DataW H × List MemPlace} (h : DataW.trod enc Tryz.prog W base spare held fuel 28 [a, b] = some x) :
    ∃ l u : Nat, a = .int .u64 (l : Int) ∧ b = .int .u64 (u : Int) ∧ l < 18446744073709551616 ∧ u < 18446744073709551616 := by
  obtain ⟨y0, y1, n, _, _, h0, h1⟩ := trod_struct2 Tryz.underlying28 h
  rw [k_cells_u64] at h0 h1
  obtain ⟨p, e0, _, w0⟩ := DataW.trod_int Tryz.underlying26 h0
  obtain ⟨q, e1, _, w1⟩ := DataW.trod_int Tryz.underlying26 h1
  obtain ⟨l, rfl, hl⟩ := u64_wf w0
  obtain ⟨u, rfl, hu⟩ := u64_wf w1
  simp at e0 e1
  exact ⟨l, u, e0, e1, hl, hu⟩

theorem list9 {α : Type} {l : List α} (h : l.length = 9) : ∃ a0 a1 a2 a3 a4 a5 a6 a7 a8, l = [a0, a1, a2, a3, a4, a5, a6, a7, a8] := by
  match l, h with
  | [a0, a1, a2, a3, a4, a5, a6, a7, a8], _ => exact ⟨_, _, _, _, _, _, _, _, _, rfl⟩

/-- One step's cells. -/
theorem op_cells {fuel : Nat} {cs : List Value} {x : DataW H × List MemPlace} (h : DataW.trod enc Tryz.prog W base spare held fuel 31 cs = some x) :
    ∃ (k a b : Int) (s : ByteArray) (xl xh yl yh : Nat) (po : Option Addr) (pl pc : Nat), cs = [.int .i64 k, .int .i64 a, .int .i64 b, .string s, .int .u64 (xl : Int), .int .u64 (xh : Int), .int .u64 (yl : Int), .int .u64 (yh : Int), .slice po pl pc] ∧ xl < 18446744073709551616 ∧ xh < 18446744073709551616 ∧ yl < 18446744073709551616 ∧ yh < 18446744073709551616 ∧ (-9223372036854775808 ≤ a ∧ a < 9223372036854775808) ∧ (-9223372036854775808 ≤ b ∧ b < 9223372036854775808) := by
  obtain ⟨xs, n, _, _, hl, hlen, hf⟩ := DataW.trod_struct Tryz.underlying31 h
  rw [k_cellsOp] at hl
  obtain ⟨a0, a1, a2, a3, a4, a5, a6, a7, a8, rfl⟩ := list9 hl
  have hlen7 : xs.length = 7 := hlen
  have get : ∀ i, i < 7 → ∃ y, xs[i]? = some y := fun i hi => ⟨xs[i]'(by rw [hlen7]; exact hi), List.getElem?_eq_getElem (by rw [hlen7]; exact hi)⟩
  obtain ⟨y0, g0⟩ := get 0 (by omega)
  obtain ⟨y1, g1⟩ := get 1 (by omega)
  obtain ⟨y2, g2⟩ := get 2 (by omega)
  obtain ⟨y3, g3⟩ := get 3 (by omega)
  obtain ⟨y4, g4⟩ := get 4 (by omega)
  obtain ⟨y5, g5⟩ := get 5 (by omega)
  obtain ⟨y6, g6⟩ := get 6 (by omega)
  have f0 : DataW.trod enc Tryz.prog W base spare held n 3 (List.take (Tryz.prog.cellsOf 3) (List.drop 0 [a0, a1, a2, a3, a4, a5, a6, a7, a8])) = some y0 := (hf 0 _ rfl).trans g0
  have f1 : DataW.trod enc Tryz.prog W base spare held n 3 (List.take (Tryz.prog.cellsOf 3) (List.drop 1 [a0, a1, a2, a3, a4, a5, a6, a7, a8])) = some y1 := (hf 1 _ rfl).trans g1
  have f2 : DataW.trod enc Tryz.prog W base spare held n 3 (List.take (Tryz.prog.cellsOf 3) (List.drop 2 [a0, a1, a2, a3, a4, a5, a6, a7, a8])) = some y2 := (hf 2 _ rfl).trans g2
  have f3 : DataW.trod enc Tryz.prog W base spare held n 9 (List.take (Tryz.prog.cellsOf 9) (List.drop 3 [a0, a1, a2, a3, a4, a5, a6, a7, a8])) = some y3 := (hf 3 _ rfl).trans g3
  have f4 : DataW.trod enc Tryz.prog W base spare held n 28 (List.take (Tryz.prog.cellsOf 28) (List.drop 4 [a0, a1, a2, a3, a4, a5, a6, a7, a8])) = some y4 := (hf 4 _ rfl).trans g4
  have f5 : DataW.trod enc Tryz.prog W base spare held n 28 (List.take (Tryz.prog.cellsOf 28) (List.drop 6 [a0, a1, a2, a3, a4, a5, a6, a7, a8])) = some y5 := (hf 5 _ rfl).trans g5
  have f6 : DataW.trod enc Tryz.prog W base spare held n 29 (List.take (Tryz.prog.cellsOf 29) (List.drop 8 [a0, a1, a2, a3, a4, a5, a6, a7, a8])) = some y6 := (hf 6 _ rfl).trans g6
  rw [k_cells_int] at f0 f1 f2
  rw [k_cells_str] at f3
  rw [k_cellsBox] at f4 f5
  rw [k_cells_p] at f6
  obtain ⟨k, e0, -, -⟩ := DataW.trod_int Tryz.underlying3 f0
  obtain ⟨a, e1, -, wa⟩ := DataW.trod_int Tryz.underlying3 f1
  obtain ⟨b, e2, -, wb⟩ := DataW.trod_int Tryz.underlying3 f2
  have ba := bounds_i64 wa
  have bb := bounds_i64 wb
  obtain ⟨s, e3, -, -⟩ := DataW.trod_string Tryz.underlying9 f3
  obtain ⟨xl, xh, e4, e5, b4, b5⟩ := box_cells (show DataW.trod enc Tryz.prog W base spare held n 28 [a4, a5] = some y4 from f4)
  obtain ⟨yl, yh, e6, e7, b6, b7⟩ := box_cells (show DataW.trod enc Tryz.prog W base spare held n 28 [a6, a7] = some y5 from f5)
  obtain ⟨po, pl, pc, e8⟩ := Joins.slice_form Tryz.underlying29 f6
  simp at e0 e1 e2 e3 e8
  subst e0 e1 e2 e3 e4 e5 e6 e7 e8
  exact ⟨_, _, _, _, _, _, _, _, _, _, _, rfl, b4, b5, b6, b7, ⟨by omega, by omega⟩, ⟨by omega, by omega⟩⟩

/-- A script that is read lies as its steps. -/
theorem script_of {fuel : Nat} {v : Value} {d : DataW H} {ps : List MemPlace} (h : DataW.trod enc Tryz.prog W base spare held fuel 22 v.cells.toList = some (d, ps)) (hv : ∃ a len cap, v = .slice a len cap) :
    ∃ (z : Script) (ao : Option Addr) (n c : Nat), v = .slice ao n c ∧ (n = 0 ∨ ∃ g off, ao = some ⟨g, off, none⟩ ∧ g < W.heap.size ∧ z.at W g off n) ∧ (∀ i, i < n → (z.xl i < 18446744073709551616 ∧ z.xh i < 18446744073709551616) ∧ (z.yl i < 18446744073709551616 ∧ z.yh i < 18446744073709551616) ∧ (-9223372036854775808 ≤ z.a i ∧ z.a i < 9223372036854775808) ∧ (-9223372036854775808 ≤ z.b i ∧ z.b i < 9223372036854775808)) ∧
      (d = .nil ∧ n = 0 ∨ ∃ es sp, d = .slice es sp ∧ es.length = n) := by
  obtain ⟨ao, n, c, rfl⟩ := hv
  have hcs : (Value.slice ao n c).cells.toList = [.slice ao n c] := rfl
  rw [hcs] at h
  rcases open_slice Tryz.underlying22 h with ⟨h0, hx⟩ | ⟨a, len, cap, m, f, D, Pl, h0, hb, hl, hm, hmm, hx, hall⟩
  · simp at h0
    obtain ⟨rfl, rfl, rfl⟩ := h0
    simp at hx
    exact ⟨⟨fun _ => 0, fun _ => 0, fun _ => 0, fun _ => ByteArray.empty, fun _ => 0, fun _ => 0, fun _ => 0, fun _ => 0, fun _ => none, fun _ => 0, fun _ => 0⟩, none, 0, 0, rfl, Or.inl rfl, fun i hi => by omega, Or.inl ⟨hx.1, rfl⟩⟩
  · simp at h0
    obtain ⟨rfl, rfl, rfl⟩ := h0
    have hmn : n ≤ m := by rw [hmm]; split <;> omega
    rw [k_cellsOp] at hall
    have hop : ∀ i, i < n → ∃ t : (Int × Int × Int) × ByteArray × (Nat × Nat × Nat × Nat) × (Option Addr × Nat × Nat),
        (W.cell? (a.add (i * 9)) = some (.int .i64 t.1.1) ∧ W.cell? ((a.add (i * 9)).add 1) = some (.int .i64 t.1.2.1) ∧ W.cell? ((a.add (i * 9)).add 2) = some (.int .i64 t.1.2.2) ∧ W.cell? ((a.add (i * 9)).add 3) = some (.string t.2.1) ∧
         W.cell? ((a.add (i * 9)).add 4) = some (.int .u64 (t.2.2.1.1 : Int)) ∧ W.cell? ((a.add (i * 9)).add 5) = some (.int .u64 (t.2.2.1.2.1 : Int)) ∧ W.cell? ((a.add (i * 9)).add 6) = some (.int .u64 (t.2.2.1.2.2.1 : Int)) ∧ W.cell? ((a.add (i * 9)).add 7) = some (.int .u64 (t.2.2.1.2.2.2 : Int)) ∧
         W.cell? ((a.add (i * 9)).add 8) = some (.slice t.2.2.2.1 t.2.2.2.2.1 t.2.2.2.2.2)) ∧
        (t.2.2.1.1 < 18446744073709551616 ∧ t.2.2.1.2.1 < 18446744073709551616) ∧ (t.2.2.1.2.2.1 < 18446744073709551616 ∧ t.2.2.1.2.2.2 < 18446744073709551616) ∧ (-9223372036854775808 ≤ t.1.2.1 ∧ t.1.2.1 < 9223372036854775808) ∧ (-9223372036854775808 ≤ t.1.2.2 ∧ t.1.2.2 < 9223372036854775808) := by
      intro i hi
      obtain ⟨cs', h1, h2⟩ := hall i (by omega)
      obtain ⟨-, -, hc⟩ := World.cells?_some h1
      obtain ⟨k, a', b', s, xl, xh, yl, yh, po, pl, pc, rfl, q1, q2, q3, q4, q5⟩ := op_cells h2
      have e0 : (a.add (i * 9)).add 0 = a.add (i * 9) := by simp [Addr.add]
      refine ⟨((k, a', b'), s, (xl, xh, yl, yh), (po, pl, pc)), ⟨?_, ?_, ?_, ?_, ?_, ?_, ?_, ?_, ?_⟩, ⟨q1, q2⟩, ⟨q3, q4⟩, q5⟩
      · have := hc 0 (by omega); rw [e0] at this; simpa using this
      · simpa using hc 1 (by omega)
      · simpa using hc 2 (by omega)
      · simpa using hc 3 (by omega)
      · simpa using hc 4 (by omega)
      · simpa using hc 5 (by omega)
      · simpa using hc 6 (by omega)
      · simpa using hc 7 (by omega)
      · simpa using hc 8 (by omega)
    obtain ⟨F, hF⟩ := choose_lt (α := (Int × Int × Int) × ByteArray × (Nat × Nat × Nat × Nat) × (Option Addr × Nat × Nat)) hop
    refine ⟨⟨fun i => (F i).1.1, fun i => (F i).1.2.1, fun i => (F i).1.2.2, fun i => (F i).2.1, fun i => (F i).2.2.1.1, fun i => (F i).2.2.1.2.1, fun i => (F i).2.2.1.2.2.1, fun i => (F i).2.2.1.2.2.2, fun i => (F i).2.2.2.1, fun i => (F i).2.2.2.2.1, fun i => (F i).2.2.2.2.2⟩, some a, n, c, rfl, ?_, fun i hi => (hF i hi).2, ?_⟩
    · by_cases hn : n = 0
      · exact Or.inl hn
      · right
        obtain ⟨g, off, spot⟩ := a
        have h00 := (hF 0 (by omega)).1.1
        have hspot : spot = none := by simpa [Addr.add] using World.cell?_spot h00
        subst hspot
        have ea : ∀ j, (Addr.mk g off none).add j = ⟨g, off + j, none⟩ := fun j => by
          by_cases hj : j = 0
          · subst hj; simp [Addr.add]
          · simp [Addr.add, hj]
        have ea2 : ∀ i j, ((Addr.mk g off none).add i).add j = ⟨g, off + i + j, none⟩ := fun i j => by
          rw [ea]
          by_cases hj : j = 0
          · subst hj; simp [Addr.add]
          · simp [Addr.add, hj]
        refine ⟨g, off, rfl, ?_, fun i hi => ?_⟩
        · have := World.block_lt_of_cell? W _ h00
          rw [ea] at this
          exact this
        · have := (hF i hi).1
          rw [ea2, ea2, ea2, ea2, ea2, ea2, ea2, ea2, ea] at this
          exact this
    · right
      simp only [Prod.mk.injEq] at hx
      exact ⟨_, _, hx.1, by simp⟩
end
end Go.Proofs.YtonhpkigoplmaaaGreatDoor
