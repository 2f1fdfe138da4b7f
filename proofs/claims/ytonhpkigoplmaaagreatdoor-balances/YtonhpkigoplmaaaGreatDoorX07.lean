/-
  SolF, SolG, FOrd, SumG, SumP.
-/
import Derived.Test.YtonhpkigoplmaaaGreatDoorX06
import Derived.Test.YtonhpkigoplmaaaGreatDoorX05
namespace Go.Proofs.YtonhpkigoplmaaaGreatDoor

/-- What the stages lose, and how the right side grows. -/
def uS : Nat → Rat
  | 0 => 0
  | k + 1 => 4 * uS k + 16 * eps
def vS (V : Rat) : Nat → Rat
  | 0 => V
  | k + 1 => 4 / 3 * vS V k
def lS : Nat → Rat
  | 0 => 1 / 1073741824
  | k + 1 => lS k / 2
def hS : Nat → Rat
  | 0 => 1073741824
  | k + 1 => 2 * hS k

theorem uS_le {k : Nat} (h : k ≤ 3) : 0 ≤ uS k ∧ uS k ≤ 336 * eps := by
  have e0 := eps_pos
  rcases (show k = 0 ∨ k = 1 ∨ k = 2 ∨ k = 3 by omega) with rfl | rfl | rfl | rfl <;> (simp only [uS]; constructor <;> grind)
theorem vS_le {k : Nat} {V : Rat} (h : k ≤ 3) (h0 : 0 ≤ V) : V ≤ vS V k ∧ vS V k ≤ 64 / 27 * V := by
  rcases (show k = 0 ∨ k = 1 ∨ k = 2 ∨ k = 3 by omega) with rfl | rfl | rfl | rfl <;> (simp only [vS]; constructor <;> grind)
theorem lS_le {k : Nat} (h : k ≤ 4) : dLow ≤ lS k ∧ hS k ≤ dHigh := by
  rcases (show k = 0 ∨ k = 1 ∨ k = 2 ∨ k = 3 ∨ k = 4 by omega) with rfl | rfl | rfl | rfl | rfl <;> (simp only [lS, hS, dLow, dHigh]; constructor <;> grind)

section
variable {α : Type} (lo hi : α → Rat) (ok : α → Prop)

/-- A row of steps: near to its numbers. -/
structure StepRow (n y : Nat) (m : Nat → α) (r : Nat → Rat) (V : Rat) : Prop where
  oks : ∀ j, y ≤ j → j ≤ n → ok (m j)
  low : dLow ≤ ab (r y)
  high : ab (r y) ≤ dHigh
  diag : Nr lo hi (m y) (r y) (ab (r y) * (336 * eps))
  near : ∀ j, y < j → j < n → Nr lo hi (m j) (r j) (ab (r y) * (336 * eps)) ∧ bd (ab (r y) * (1 / 4)) (r j)
  rnear : Nr lo hi (m n) (r n) (ab (r y) * V * (336 * eps))
  rbd : bd (ab (r y) * V) (r n)
end

section
variable {α : Type} {lo hi : α → Rat} {eta Big : Rat} {mu su qo : α → α → Option α} {pv : (Nat → Nat → α) → Nat → Nat → Option Nat} {ok : α → Prop}

theorem elimX_near (H : Near lo hi eta Big mu su qo pv ok) {n : Nat} (hn : n ≤ 4) {V : Rat} (hV : V = 0 ∨ 16 * vLow ≤ V) (hV2 : 16 * V ≤ vHigh) (he : eta ≤ eps * tiny) (hG : huge ≤ Big) : ∀ (f k : Nat) (M : Nat → Nat → α) (R : Nat → Nat → Rat), k + f = n → Stage lo hi ok n k M R (uS k) (vS V k) (lS k) (hS k) →
    ∃ (M' : Nat → Nat → α) (R' : Nat → Nat → Rat), elimX mu su qo pv n f k M = some M' ∧ (∀ y, y < k → M' y = M y) ∧ ∀ y, k ≤ y → y < n → StepRow lo hi ok n y (M' y) (R' y) (64 / 27 * V)
  | 0, k, M, R, hk, s => ⟨M, R, rfl, fun y _ => rfl, fun y a b => by omega⟩
  | f + 1, k, M, R, hk, s => by
    have e0 := eps_pos
    have e1 := eps_le
    have hV0 : 0 ≤ V := by rcases hV with h | h <;> (unfold vLow at *; grind)
    obtain ⟨u0, u1⟩ := uS_le (k := k) (by omega)
    obtain ⟨v0, v1⟩ := vS_le (k := k) (V := V) (by omega) hV0
    obtain ⟨l0, l1⟩ := lS_le (k := k) (by omega)
    have hp := H.pv M n k (by omega) (fun i j a b c d => s.oks i j a b c (by omega)) (s.piv (by omega) (by unfold dLow at l0; grind) u0 (by grind))
    have hVk : vS V k = 0 ∨ vLow ≤ vS V k := by
      rcases hV with h | h
      · left; grind
      · right; unfold vLow at *; grind
    obtain ⟨M1, h1, h2, h3⟩ := s.next H (by omega) l0 l1 u0 (by grind) hVk (by unfold vHigh at *; grind) he hG
    obtain ⟨M', R', g1, g2, g3⟩ := elimX_near H hn hV hV2 he hG f (k + 1) M1 _ (by omega) h3
    refine ⟨M', fun y => if y = k then R k else R' y, ?_, fun y hy => by rw [g2 y (by omega), h2 y (by omega)], fun y a b => ?_⟩
    · show (pv M n k).bind _ = _
      rw [hp]
      show (takeI mu su qo n k (n - 1 - k) (k + 1) (swapR M k k)).bind _ = _
      rw [h1]; exact g1
    · by_cases hy : y = k
      · subst hy
        simp only [if_pos]
        rw [g2 y (by omega), h2 y (by omega)]
        have q := ab_nonneg (R y y)
        have m1 := mul_le_l q u1
        have m2 := mul_le_l q v1
        have m3 := Rat.mul_nonneg q (show 0 ≤ vS V y by grind)
        have m4 := mul_le_l m3 u1
        have m5 := mul_le_r (show 0 ≤ 336 * eps by grind) m2
        exact ⟨fun j a b => s.oks y j (by omega) (by omega) a b, by have := s.low y (by omega) (by omega); grind, by have := s.high y (by omega) (by omega); grind, (s.near y y (by omega) (by omega) (by omega) (by omega)).le m1, fun j a b => ⟨(s.near y j (by omega) (by omega) (by omega) b).le m1, s.off (by omega) (by omega) (by omega) b (by omega)⟩, (s.rnear y (by omega) (by omega)).le (by grind), bd_le (s.rbd y (by omega) (by omega)) m2⟩
      · simp only [if_neg hy]
        exact g3 y (by omega) b

/-- What is left of the right side behind f entries. -/
theorem restJ_near (H : Near lo hi eta Big mu su qo pv ok) {n y : Nat} {m g : Nat → α} {r X : Nat → Rat} {V Y w : Rat} (hn : n ≤ 4) (s : StepRow lo hi ok n y m r V) (hVY : V ≤ Y) (w0 : 0 ≤ w) (w1 : w ≤ 1 / 100) (og : ∀ j, y < j → j < n → ok (g j)) (hg : ∀ j, y < j → j < n → Nr lo hi (g j) (X j) (Y * w) ∧ bd Y (X j))
    (hD0 : 0 ≤ ab (r y) * Y) (hD1 : ab (r y) * Y = 0 ∨ eta ≤ eps * (ab (r y) * Y)) (hD2 : 4 * (ab (r y) * Y) ≤ Big) :
    ∀ (f c : Nat) (a : α) (A : Rat), c + f + 1 + y = n → ok a → Nr lo hi a A (ab (r y) * Y * (336 * eps + c * (w / 2 + 400 * eps))) → bd (ab (r y) * Y * (1 + c / 4)) A → ∃ b, restJ mu su m g f (y + 1 + c) a = some b ∧ ok b ∧ Nr lo hi b (A - sumR f (fun i => r (y + 1 + c + i) * X (y + 1 + c + i))) (ab (r y) * Y * (336 * eps + ((c + f : Nat) : Rat) * (w / 2 + 400 * eps))) ∧ bd (ab (r y) * Y * (1 + ((c + f : Nat) : Rat) / 4)) (A - sumR f (fun i => r (y + 1 + c + i) * X (y + 1 + c + i)))
  | 0, c, a, A, _, oa, na, ba => ⟨a, rfl, oa, by show Nr lo hi a (A - 0) _; rw [show A - 0 = A by grind]; exact na, by show bd _ (A - 0); rw [show A - 0 = A by grind]; exact ba⟩
  | f + 1, c, a, A, hc, oa, na, ba => by
    have e0 := eps_pos
    have e1 := eps_le
    obtain ⟨ng, bg⟩ := hg (y + 1 + c) (by omega) (by omega)
    obtain ⟨nm, bm⟩ := s.near (y + 1 + c) (by omega) (by omega)
    have hc3 : (c : Rat) ≤ 2 := by
      rcases (show c = 0 ∨ c = 1 ∨ c = 2 by omega) with rfl | rfl | rfl <;> grind
    have hc0 : (0 : Rat) ≤ (c : Rat) := by
      rcases (show c = 0 ∨ c = 1 ∨ c = 2 by omega) with rfl | rfl | rfl <;> grind
    generalize hD : ab (r y) = D at *
    have E1 : D * (1 / 4) * (Y * w) + Y * (D * (336 * eps)) + D * (336 * eps) * (Y * w) = D * Y * (w / 4 + 336 * eps + 336 * (eps * w)) := by grind
    have E2 : D * (1 / 4) * Y = D * Y * (1 / 4) := by grind
    have E3 : Y * (D * (336 * eps)) = D * Y * (336 * eps) := by grind
    have ew := mul_le_l (Rat.le_of_lt e0) w1
    have ew0 := Rat.mul_nonneg (Rat.le_of_lt e0) w0
    have cw := mul_le_r (show 0 ≤ w / 2 + 400 * eps by grind) hc3
    have cw0 := Rat.mul_nonneg hc0 (show 0 ≤ w / 2 + 400 * eps by grind)
    generalize hE : D * Y = E at *
    have L1 := mul_le_l hD0 (show w / 4 + 336 * eps + 336 * (eps * w) ≤ 1 by grind)
    obtain ⟨p, hp, op, np⟩ := nr_mul H (S := E) (s.oks _ (by omega) (by omega)) (og _ (by omega) (by omega)) nm ng bm bg (by rw [E1, E2]; grind) hD1 (by grind)
    rw [E1] at np
    have bp : bd (E * (1 / 4)) (r (y + 1 + c) * X (y + 1 + c)) := by have := bd_mul bm bg; rwa [E2] at this
    have eE := Rat.mul_nonneg (Rat.le_of_lt e0) hD0
    have L2 := mul_le_l hD0 (show (1 + (c : Rat) / 4) + 1 / 4 + (336 * eps + c * (w / 2 + 400 * eps)) + (w / 4 + 336 * eps + 336 * (eps * w)) + 3 * eps ≤ 4 by grind)
    obtain ⟨d, hd, od, nd⟩ := nr_sub H (S := 2 * E) oa op na np ba bp (by grind) (by rcases hD1 with h | h; (left; grind); (right; grind)) (by grind)
    have bb := bd_sub ba bp
    obtain ⟨b, hb, ob, nb, bb'⟩ := restJ_near H hn s hVY w0 w1 og hg (by rw [hD, hE]; exact hD0) (by rw [hD, hE]; exact hD1) (by rw [hD, hE]; exact hD2) f (c + 1) d (A - r (y + 1 + c) * X (y + 1 + c)) (by omega) od
      (nd.le (by
        have L3 := mul_le_l hD0 (show (336 * eps + c * (w / 2 + 400 * eps)) + (w / 4 + 336 * eps + 336 * (eps * w)) + 9 * eps ≤ 336 * eps + ((c : Rat) + 1) * (w / 2 + 400 * eps) by grind)
        rw [hD, hE]
        have : (((c + 1 : Nat)) : Rat) = (c : Rat) + 1 := by grind
        rw [this]; grind))
      (bd_le bb (by
        rw [hD, hE]
        have : (((c + 1 : Nat)) : Rat) = (c : Rat) + 1 := by grind
        rw [this]; grind))
    rw [hD, hE] at nb bb'
    refine ⟨b, ?_, ob, ?_, ?_⟩
    · show (lpX mu su a (m (y + 1 + c)) (g (y + 1 + c))).bind _ = _
      have : lpX mu su a (m (y + 1 + c)) (g (y + 1 + c)) = some d := by unfold lpX; rw [hp]; exact hd
      rw [this]; exact hb
    · have e : A - sumR (f + 1) (fun i => r (y + 1 + c + i) * X (y + 1 + c + i)) = A - r (y + 1 + c) * X (y + 1 + c) - sumR f (fun i => r (y + 1 + (c + 1) + i) * X (y + 1 + (c + 1) + i)) := by
        rw [sumR_shift]
        simp only [Nat.add_zero]
        rw [show sumR f (fun j => r (y + 1 + c + (j + 1)) * X (y + 1 + c + (j + 1))) = sumR f (fun i => r (y + 1 + (c + 1) + i) * X (y + 1 + (c + 1) + i)) from sumR_congr (fun j _ => by rw [show y + 1 + c + (j + 1) = y + 1 + (c + 1) + j by omega])]
        grind
      rw [e, show c + (f + 1) = c + 1 + f by omega]; exact nb
    · have e : A - sumR (f + 1) (fun i => r (y + 1 + c + i) * X (y + 1 + c + i)) = A - r (y + 1 + c) * X (y + 1 + c) - sumR f (fun i => r (y + 1 + (c + 1) + i) * X (y + 1 + (c + 1) + i)) := by
        rw [sumR_shift]
        simp only [Nat.add_zero]
        rw [show sumR f (fun j => r (y + 1 + c + (j + 1)) * X (y + 1 + c + (j + 1))) = sumR f (fun i => r (y + 1 + (c + 1) + i) * X (y + 1 + (c + 1) + i)) from sumR_congr (fun j _ => by rw [show y + 1 + c + (j + 1) = y + 1 + (c + 1) + j by omega])]
        grind
      rw [e, show c + (f + 1) = c + 1 + f by omega]; exact bb'
end
end Go.Proofs.YtonhpkigoplmaaaGreatDoor
namespace Go.Proofs.YtonhpkigoplmaaaGreatDoor

def wS : Nat → Rat
  | 0 => 0
  | k + 1 => 3 / 2 * wS k + 2300 * eps
def yS (Y : Rat) : Nat → Rat
  | 0 => Y
  | k + 1 => 2 * yS Y k

theorem wS_le {k : Nat} (h : k ≤ 4) : 0 ≤ wS k ∧ wS k ≤ 18688 * eps := by
  have e0 := eps_pos
  rcases (show k = 0 ∨ k = 1 ∨ k = 2 ∨ k = 3 ∨ k = 4 by omega) with rfl | rfl | rfl | rfl | rfl <;> (simp only [wS]; constructor <;> grind)
theorem yS_le {k : Nat} {Y : Rat} (h : k ≤ 4) (h0 : 0 ≤ Y) : Y ≤ yS Y k ∧ yS Y k ≤ 16 * Y := by
  rcases (show k = 0 ∨ k = 1 ∨ k = 2 ∨ k = 3 ∨ k = 4 by omega) with rfl | rfl | rfl | rfl | rfl <;> (simp only [yS]; constructor <;> grind)

section
variable {α : Type} {lo hi : α → Rat} {eta Big : Rat} {mu su qo : α → α → Option α} {pv : (Nat → Nat → α) → Nat → Nat → Option Nat} {ok : α → Prop}

theorem substX_near (H : Near lo hi eta Big mu su qo pv ok) {n : Nat} (hn : n ≤ 4) {M : Nat → Nat → α} {R : Nat → Nat → Rat} {V : Rat} (hV : V = 0 ∨ vLow ≤ V) (hV2 : V ≤ vHigh) (he : eta ≤ eps * tiny) (hG : huge ≤ Big) (s : ∀ y, y < n → StepRow lo hi ok n y (M y) (R y) V) :
    ∀ (i : Nat) (g : Nat → α) (X : Nat → Rat), i ≤ n → (∀ j, i ≤ j → j < n → ok (g j) ∧ Nr lo hi (g j) (X j) (yS V (n - i) * wS (n - i)) ∧ bd (yS V (n - i)) (X j)) →
      ∃ g', substX mu su qo n M i g = some g' ∧ ∀ j, j < n → ok (g' j) ∧ ∃ x, Nr lo hi (g' j) x (yS V n * wS n)
  | 0, g, X, _, h => ⟨g, rfl, fun j hj => ⟨(h j (by omega) hj).1, X j, (h j (by omega) hj).2.1⟩⟩
  | i + 1, g, X, hin, h => by
    have e0 := eps_pos
    have e1 := eps_le
    have hV0 : 0 ≤ V := by rcases hV with h | h <;> (unfold vLow at *; grind)
    obtain ⟨w0, w1⟩ := wS_le (k := n - (i + 1)) (by omega)
    obtain ⟨y0, y1⟩ := yS_le (k := n - (i + 1)) (Y := V) (by omega) hV0
    have hnext : yS V (n - i) = 2 * yS V (n - (i + 1)) ∧ wS (n - i) = 3 / 2 * wS (n - (i + 1)) + 2300 * eps := by
      rw [show n - i = (n - (i + 1)) + 1 by omega]; exact ⟨rfl, rfl⟩
    obtain ⟨hn1, hn2⟩ := hnext
    generalize hY : yS V (n - (i + 1)) = Y at *
    generalize hw : wS (n - (i + 1)) = w at *
    have si := s i (by omega)
    have dl := si.low
    have dh := si.high
    have hY0 : 0 ≤ Y := by grind
    have hdl : 0 < dLow := by unfold dLow; grind
    have D0 : 0 < ab (R i i) := by grind
    have hD0 : 0 ≤ ab (R i i) * Y := Rat.mul_nonneg (by grind) hY0
    have hYS : ∀ c : Rat, 1 ≤ c → (c * Y = 0 ∨ eta ≤ eps * (c * Y)) := by
      intro c hc
      rcases hV with hv | hv
      · left
        have : Y = 0 := by grind
        rw [this]; grind
      · refine S_ok he ?_
        have := mul_le_r hY0 hc
        unfold tiny vLow at *; grind
    have hD1 : ab (R i i) * Y = 0 ∨ eta ≤ eps * (ab (R i i) * Y) := by
      rcases hV with hv | hv
      · left
        have : Y = 0 := by grind
        rw [this]; grind
      · refine S_ok he ?_
        have := mul_le_2 (a := dLow) (b := ab (R i i)) (x := vLow) (y := Y) (by grind) (by unfold vLow; grind) dl (by grind)
        unfold tiny dLow vLow at *; grind
    have hD2 : 4 * (ab (R i i) * Y) ≤ Big := by
      have := mul_le_2 (a := ab (R i i)) (b := dHigh) (x := Y) (y := 16 * vHigh) (by grind) hY0 dh (by grind)
      unfold huge dHigh vHigh at *; grind
    have og : ∀ j, i < j → j < n → ok (g j) := fun j a b => (h j (by omega) b).1
    have hg : ∀ j, i < j → j < n → Nr lo hi (g j) (X j) (Y * w) ∧ bd Y (X j) := fun j a b => (h j (by omega) b).2
    have dV := mul_le_l (Rat.le_of_lt D0) y0
    have dVe := mul_le_r (show 0 ≤ 336 * eps by grind) dV
    obtain ⟨b, hb, ob, nb, bb⟩ := restJ_near H hn si y0 w0 (by grind) og hg hD0 hD1 hD2 (n - 1 - i) 0 (M i n) (R i n) (by omega) (si.oks n (by omega) (by omega)) (si.rnear.le (by
      have : ((0 : Nat) : Rat) = 0 := rfl
      rw [this]; grind)) (bd_le si.rbd (by
      have : ((0 : Nat) : Rat) = 0 := rfl
      rw [this]; grind))
    simp only [Nat.add_zero, Nat.zero_add] at hb nb bb
    have hc3 : ((n - 1 - i : Nat) : Rat) ≤ 3 := by
      rcases (show n - 1 - i = 0 ∨ n - 1 - i = 1 ∨ n - 1 - i = 2 ∨ n - 1 - i = 3 by omega) with h | h | h | h <;> (rw [h]; grind)
    have hc0 : (0 : Rat) ≤ ((n - 1 - i : Nat) : Rat) := by
      rcases (show n - 1 - i = 0 ∨ n - 1 - i = 1 ∨ n - 1 - i = 2 ∨ n - 1 - i = 3 by omega) with h | h | h | h <;> (rw [h]; grind)
    have cw := mul_le_r (show 0 ≤ w / 2 + 400 * eps by grind) hc3
    generalize ((n - 1 - i : Nat) : Rat) = c at *
    generalize hA : R i n - sumR (n - 1 - i) (fun j => R i (i + 1 + j) * X (i + 1 + j)) = A at *
    have nb' : Nr lo hi b A (ab (R i i) * Y * (3 / 2 * w + 1536 * eps)) := nb.le (mul_le_l hD0 (by grind))
    have bb' : bd (ab (R i i) * Y * (7 / 4)) A := bd_le bb (mul_le_l hD0 (by grind))
    have hr0 : R i i ≠ 0 := by intro hc; rw [hc, ab_zero] at D0; grind
    have hQ : bd (7 / 4 * Y) (A / R i i) := by
      refine bd_over (h := ab (R i i)) D0 (y := R i i) (by rcases ab_cases (R i i) with ⟨_, e⟩ | ⟨_, e⟩ <;> grind) ?_
      rw [show A / R i i * R i i = A by grind]
      exact bd_le bb' (by grind)
    have p1 := mul_le_l (Rat.le_of_lt D0) (show 336 * eps ≤ 1 / 2 by grind)
    have yw := mul_le_l hY0 w1
    have ye := Rat.mul_nonneg hY0 (Rat.le_of_lt e0)
    have yw0 := Rat.mul_nonneg hY0 w0
    have yee := mul_le_l hY0 e1
    obtain ⟨_, c', hc', oc', nc'⟩ := nr_quo H (Q := 7 / 4 * Y) (g := Y * (3 * w + 4416 * eps)) (L := ab (R i i)) (S := 2 * Y) ob (si.oks i (by omega) (by omega)) nb' si.diag D0 (by rcases ab_cases (R i i) with ⟨_, e⟩ | ⟨_, e⟩ <;> grind) (by grind) hQ
      (by
        have := Rat.mul_nonneg hD0 (Rat.le_of_lt e0)
        rw [show ab (R i i) * Y * (3 / 2 * w + 1536 * eps) + 7 / 4 * Y * (ab (R i i) * (336 * eps)) = ab (R i i) * Y * (3 / 2 * w) + 2124 * (ab (R i i) * Y * eps) by grind, show Y * (3 * w + 4416 * eps) * (ab (R i i) / 2) = ab (R i i) * Y * (3 / 2 * w) + 2208 * (ab (R i i) * Y * eps) by grind]
        grind) (by grind) (hYS 2 (by grind)) (by unfold huge vHigh at *; grind)
    obtain ⟨g', k1, k2⟩ := substX_near H hn hV hV2 he hG s i (upd g i c') (fun j => if j = i then A / R i i else X j) (by omega) (fun j a b => by
      rw [hn1, hn2]
      by_cases hj : j = i
      · subst hj
        simp only [if_pos]
        rw [upd_same]
        exact ⟨oc', nc'.le (by grind), bd_le hQ (by grind)⟩
      · simp only [if_neg hj]
        rw [upd_ne hj]
        obtain ⟨q1, q2, q3⟩ := h j (by omega) b
        exact ⟨q1, q2.le (by grind), bd_le q3 (by grind)⟩)
    refine ⟨g', ?_, k2⟩
    show (restJ mu su (M i) g (n - 1 - i) (i + 1) (M i n)).bind _ = _
    rw [hb]
    show (qo b (M i i)).bind _ = _
    rw [hc']; exact k1

/-- A system of numbers with a heavy diagonal is answered, narrowly. -/
theorem solveX_near (H : Near lo hi eta Big mu su qo pv ok) {n : Nat} (hn : n ≤ 4) {M : Nat → Nat → α} {z : Nat → α} {R : Nat → Nat → Rat} {V : Rat} (hV : V = 0 ∨ 16 * vLow ≤ V) (hV2 : 16 * V ≤ vHigh) (he : eta ≤ eps * tiny) (hG : huge ≤ Big)
    (oks : ∀ i j, i < n → j ≤ n → ok (M i j)) (pts : ∀ i j, i < n → j ≤ n → lo (M i j) = R i j ∧ hi (M i j) = R i j) (low : ∀ i, i < n → 1 / 1073741824 ≤ ab (R i i)) (high : ∀ i, i < n → ab (R i i) ≤ 1073741824)
    (dom : ∀ i, i < n → sumR n (fun j => ab (R i j)) ≤ 5 / 4 * ab (R i i)) (rb : ∀ i, i < n → bd (ab (R i i) * V) (R i n)) :
    ∃ g, solveX mu su qo pv n M z = some g ∧ ∀ i, i < n → ok (g i) ∧ hi (g i) - lo (g i) ≤ V / 2147483648 := by
  have e0 := eps_pos
  have hV0 : 0 ≤ V := by rcases hV with h | h <;> (unfold vLow at *; grind)
  have z0 : ∀ a A, lo a = A → hi a = A → Nr lo hi a A 0 := by
    intro a A h1 h2
    constructor <;> (unfold bd; constructor <;> grind)
  have st : Stage lo hi ok n 0 M R (uS 0) (vS V 0) (lS 0) (hS 0) := by
    constructor
    · intro i j _ a _ b; exact oks i j a b
    · intro i _ a; exact low i a
    · intro i _ a; exact high i a
    · intro i _ a
      have := dom i a
      simpa using this
    · intro i j _ a _ b
      obtain ⟨h1, h2⟩ := pts i j a (by omega)
      exact (z0 _ _ h1 h2).le (by show 0 ≤ ab (R i i) * 0; grind)
    · intro i _ a
      obtain ⟨h1, h2⟩ := pts i n a (by omega)
      exact (z0 _ _ h1 h2).le (by show 0 ≤ ab (R i i) * vS V 0 * 0; grind)
    · intro i _ a; exact rb i a
  obtain ⟨M', R', h1, _, h3⟩ := elimX_near H hn hV hV2 he hG n 0 M R (by omega) st
  obtain ⟨g, h4, h5⟩ := substX_near H hn (M := M') (R := R') (V := 64 / 27 * V) (by rcases hV with h | h; (left; grind); (right; unfold vLow at *; grind)) (by unfold vHigh at *; grind) he hG (fun y hy => h3 y (by omega) hy) n z (fun _ => 0) (Nat.le_refl _) (fun j a b => by omega)
  refine ⟨g, ?_, fun i hin => ?_⟩
  · unfold solveX; rw [h1]; exact h4
  · obtain ⟨oi, x, hx⟩ := h5 i hin
    refine ⟨oi, ?_⟩
    have a1 := hx.1
    have a2 := hx.2
    obtain ⟨w0, w1⟩ := wS_le hn
    obtain ⟨y0, y1⟩ := yS_le (k := n) (Y := 64 / 27 * V) hn (by grind)
    have := mul_le_2 (a := yS (64 / 27 * V) n) (b := 16 * (64 / 27 * V)) (x := wS n) (y := 18688 * eps) (by grind) w0 y1 w1
    unfold bd at a1 a2
    unfold eps at *
    grind
end
end Go.Proofs.YtonhpkigoplmaaaGreatDoor
namespace Go.Proofs.YtonhpkigoplmaaaGreatDoor
open Go.RowKit Go.Extern Ieee

/-- The amount of a rung, in units of the least one. -/
def vr (r : Nat) : Nat := if r < 4503599627370496 then r else (4503599627370496 + r % 4503599627370496) * 2 ^ (r / 4503599627370496 - 1)

theorem vr_succ (r : Nat) : vr r < vr (r + 1) := by
  unfold vr
  by_cases h1 : r + 1 < 4503599627370496
  · rw [if_pos (by omega), if_pos h1]; omega
  · rw [if_neg h1]
    by_cases h2 : r < 4503599627370496
    · rw [if_pos h2]
      have e : r + 1 = 4503599627370496 := by omega
      rw [e]
      have : 4503599627370496 / 4503599627370496 - 1 = 0 := by decide
      rw [this, Nat.pow_zero]; omega
    · rw [if_neg h2]
      by_cases h3 : r % 4503599627370496 + 1 = 4503599627370496
      · have e1 : (r + 1) % 4503599627370496 = 0 := by omega
        have e2 : (r + 1) / 4503599627370496 - 1 = (r / 4503599627370496 - 1) + 1 := by omega
        rw [e1, e2, Nat.pow_succ]
        have hp := Nat.two_pow_pos (r / 4503599627370496 - 1)
        generalize 2 ^ (r / 4503599627370496 - 1) = g at *
        have e3 : r % 4503599627370496 = 4503599627370495 := by omega
        rw [e3]; omega
      · have e1 : (r + 1) % 4503599627370496 = r % 4503599627370496 + 1 := by omega
        have e2 : (r + 1) / 4503599627370496 - 1 = r / 4503599627370496 - 1 := by omega
        rw [e1, e2]
        exact Nat.mul_lt_mul_of_pos_right (by omega) (Nat.two_pow_pos _)

theorem vr_lt {r t : Nat} (h : r < t) : vr r < vr t := by
  obtain ⟨k, rfl⟩ : ∃ k, t = r + 1 + k := ⟨t - (r + 1), by omega⟩
  clear h
  induction k with
  | zero => exact vr_succ r
  | succ k ih => exact Nat.lt_trans ih (vr_succ (r + 1 + k))

theorem read_vr {s : Bool} {r : Nat} (h : r < 9218868437227405312) : ∃ m e, double.read (wd s r) = .number s m e ∧ -1074 ≤ e ∧ m * 2 ^ (e + 1074).toNat = vr r := by
  have hsw : double.signWeight = 9223372036854775808 := rfl
  have hbn : double.binade = 4503599627370496 := rfl
  have hir : double.infRung = 9218868437227405312 := rfl
  have hlp : double.leastPlace = -1074 := rfl
  have hm : wd s r % 9223372036854775808 = r := by unfold wd; split <;> omega
  have hd : (wd s r / 9223372036854775808 % 2 == 1) = s := by
    unfold wd
    cases s
    · rw [if_neg Bool.false_ne_true, show (r + 0) / 9223372036854775808 % 2 = 0 by omega]; rfl
    · rw [if_pos rfl, show (r + 9223372036854775808) / 9223372036854775808 % 2 = 1 by omega]; rfl
  unfold Format.read
  simp only [hsw, hbn, hir, hlp, hm, hd]
  unfold vr
  by_cases hs : r < 4503599627370496
  · rw [if_pos hs, if_pos hs]; exact ⟨_, _, rfl, by omega, by simp⟩
  · rw [if_neg hs, if_pos h, if_neg hs]
    refine ⟨_, _, rfl, by omega, ?_⟩
    congr 2
    omega

theorem read_wd_inf (s : Bool) : double.read (wd s 9218868437227405312) = .infinity s := by cases s <;> rfl

theorem cmp_mul {x y g : Int} (hg : 0 < g) : compare (x * g) (y * g) = compare x y := by
  rcases (show x < y ∨ x = y ∨ y < x by omega) with h | h | h
  · rw [cmp_lt' h, cmp_lt' (Int.mul_lt_mul_of_pos_right h hg)]
  · rw [cmp_eq' h, cmp_eq' (by rw [h])]
  · rw [cmp_gt' h, cmp_gt' (Int.mul_lt_mul_of_pos_right h hg)]

theorem sg_mul (s : Bool) (n k : Nat) : sg s n * (k : Int) = sg s (n * k) := by
  unfold sg
  cases s
  · rw [if_neg Bool.false_ne_true, if_neg Bool.false_ne_true, Int.natCast_mul]
  · rw [if_pos rfl, if_pos rfl, Int.natCast_mul, Int.neg_mul]

theorem cmp_vr (s t : Bool) (r q : Nat) : compare (sg s (vr r)) (sg t (vr q)) = compare (sg s r) (sg t q) := by
  have z : ∀ r, (vr r = 0 ↔ r = 0) := by
    intro r
    constructor
    · intro h
      rcases Nat.eq_zero_or_pos r with h' | h'
      · exact h'
      · have := vr_lt h'; omega
    · rintro rfl; rfl
  have zr := z r
  have zq := z q
  have l1 : r < q → vr r < vr q := vr_lt
  have l2 : q < r → vr q < vr r := vr_lt
  have l3 : r = q → vr r = vr q := fun h => by rw [h]
  generalize vr r = a at *
  generalize vr q = b at *
  have key : ∀ x y x' y' : Int, (x < y ↔ x' < y') → (x = y ↔ x' = y') → compare x y = compare x' y' := by
    intro x y x' y' h1 h2
    rcases (show x < y ∨ x = y ∨ y < x by omega) with h | h | h
    · rw [cmp_lt' h, cmp_lt' (h1.1 h)]
    · rw [cmp_eq' h, cmp_eq' (h2.1 h)]
    · rw [cmp_gt' h, cmp_gt' (by omega)]
  apply key <;> unfold sg <;> cases s <;> cases t <;> simp <;> omega

theorem order_wd {s t : Bool} {r q : Nat} (hr : r ≤ 9218868437227405312) (hq : q ≤ 9218868437227405312) : double.order (wd s r) (wd t q) = some (compare (sg s r) (sg t q)) := by
  unfold Format.order
  rcases (show r < 9218868437227405312 ∨ r = 9218868437227405312 by omega) with h1 | h1 <;> rcases (show q < 9218868437227405312 ∨ q = 9218868437227405312 by omega) with h2 | h2
  · obtain ⟨m, i, e1, e2, e3⟩ := read_vr (s := s) h1
    obtain ⟨n, j, f1, f2, f3⟩ := read_vr (s := t) h2
    rw [e1, f1]
    simp only [Datum.order, signed_eq]
    rw [← cmp_vr s t r q, ← e3, ← f3]
    congr 1
    have hg : (0 : Int) < ((2 ^ (min i j + 1074).toNat : Nat) : Int) := by
      have := Nat.two_pow_pos (min i j + 1074).toNat
      omega
    rw [← cmp_mul hg, sg_mul, sg_mul, Nat.mul_assoc, Nat.mul_assoc, ← Nat.pow_add, ← Nat.pow_add]
    congr 4 <;> congr 1 <;> omega
  · obtain ⟨m, i, e1, e2, e3⟩ := read_vr (s := s) h1
    subst h2
    rw [e1, read_wd_inf]
    simp only [Datum.order]
    unfold sg
    cases t
    · rw [cmp_lt' (by cases s <;> simp <;> omega)]; rfl
    · rw [cmp_gt' (by cases s <;> simp <;> omega)]; rfl
  · obtain ⟨m, i, e1, e2, e3⟩ := read_vr (s := t) h2
    subst h1
    rw [e1, read_wd_inf]
    simp only [Datum.order]
    unfold sg
    cases s
    · rw [cmp_gt' (by cases t <;> simp <;> omega)]; rfl
    · rw [cmp_lt' (by cases t <;> simp <;> omega)]; rfl
  · subst h1
    subst h2
    rw [read_wd_inf, read_wd_inf]
    cases s <;> cases t <;> rfl

/-- A float that stands at a place among the plain ones; it is no NaN, and not -0. -/
structure FR (d : Nat) (p : Int) : Prop where
  lt : d < 18446744073709551616
  nz : d ≠ 9223372036854775808
  num : d % 9223372036854775808 ≤ 9218868437227405312
  pos : posF d = p

theorem wd_self {d : Nat} (h : d < 18446744073709551616) : wd (decide (9223372036854775808 ≤ d)) (d % 9223372036854775808) = d := by
  unfold wd
  by_cases hd : 9223372036854775808 ≤ d
  · rw [decide_eq_true hd, if_pos rfl]; omega
  · rw [decide_eq_false hd, if_neg Bool.false_ne_true]; omega

/-- A word's signed rung. -/
def kw (d : Nat) : Int := sg (decide (9223372036854775808 ≤ d)) (d % 9223372036854775808)

theorem order_kw {d f : Nat} {p q : Int} (hd : FR d p) (hf : FR f q) : double.order d f = some (compare (kw d) (kw f)) := by
  have := order_wd (s := decide (9223372036854775808 ≤ d)) (t := decide (9223372036854775808 ≤ f)) hd.num hf.num
  rwa [wd_self hd.lt, wd_self hf.lt] at this

theorem posF_kw (d : Nat) : posF d = if kw d = 0 then 0 else sgI (decide (kw d < 0)) (clampR (kw d).natAbs) := by
  unfold posF kw sg
  by_cases h0 : d % 9223372036854775808 = 0
  · rw [if_pos h0, h0]; split <;> simp
  · rw [if_neg h0]
    by_cases hd : 9223372036854775808 ≤ d
    · rw [decide_eq_true hd, if_pos rfl, if_neg (by omega), decide_eq_true (by omega)]
      congr 2; omega
    · rw [decide_eq_false hd, if_neg Bool.false_ne_true, if_neg (by omega), decide_eq_false (by omega)]
      congr 2

theorem pos_mono_kw {x y : Int} (h : x ≤ y) : (if x = 0 then 0 else sgI (decide (x < 0)) (clampR x.natAbs)) ≤ (if y = 0 then 0 else sgI (decide (y < 0)) (clampR y.natAbs)) := by
  have c1 := clampR_bounds (x.natAbs : Int)
  have c2 := clampR_bounds (y.natAbs : Int)
  rcases (show x < 0 ∨ x = 0 ∨ 0 < x by omega) with hx | hx | hx
  · rw [if_neg (by omega), decide_eq_true hx]
    rcases (show y < 0 ∨ y = 0 ∨ 0 < y by omega) with hy | hy | hy
    · rw [if_neg (by omega), decide_eq_true hy]
      have := clampR_mono (r := (y.natAbs : Int)) (t := (x.natAbs : Int)) (by omega)
      unfold sgI
      rw [if_pos rfl, if_pos rfl]; omega
    · rw [if_pos hy]; unfold sgI; rw [if_pos rfl]; omega
    · rw [if_neg (by omega), decide_eq_false (by omega)]; unfold sgI; rw [if_pos rfl, if_neg Bool.false_ne_true]; omega
  · rw [if_pos hx]
    rcases (show y = 0 ∨ 0 < y by omega) with hy | hy
    · rw [if_pos hy]; exact Int.le_refl _
    · rw [if_neg (by omega), decide_eq_false (by omega)]; unfold sgI; rw [if_neg Bool.false_ne_true]; omega
  · rw [if_neg (by omega), if_neg (by omega), decide_eq_false (by omega), decide_eq_false (by omega)]
    unfold sgI
    rw [if_neg Bool.false_ne_true, if_neg Bool.false_ne_true]
    exact clampR_mono (by omega)

/-- The lower, the greater one of two floats. -/
def fmin (x y : Nat) : Nat := if kw x < kw y then x else y
def fmax (x y : Nat) : Nat := if kw x < kw y then y else x

theorem FR.mn {d f : Nat} {p q : Int} (hd : FR d p) (hf : FR f q) : FR (fmin d f) (min p q) := by
  have h1 := posF_kw d
  have h2 := posF_kw f
  rw [hd.pos] at h1
  rw [hf.pos] at h2
  unfold fmin
  by_cases h : kw d < kw f
  · have := pos_mono_kw (x := kw d) (y := kw f) (by omega)
    rw [if_pos h, show min p q = p by omega]; exact hd
  · have := pos_mono_kw (x := kw f) (y := kw d) (by omega)
    rw [if_neg h, show min p q = q by omega]; exact hf

theorem FR.mx {d f : Nat} {p q : Int} (hd : FR d p) (hf : FR f q) : FR (fmax d f) (max p q) := by
  have h1 := posF_kw d
  have h2 := posF_kw f
  rw [hd.pos] at h1
  rw [hf.pos] at h2
  unfold fmax
  by_cases h : kw d < kw f
  · have := pos_mono_kw (x := kw d) (y := kw f) (by omega)
    rw [if_pos h, show max p q = q by omega]; exact hf
  · have := pos_mono_kw (x := kw f) (y := kw d) (by omega)
    rw [if_neg h, show max p q = p by omega]; exact hd

theorem kw_inj {d f : Nat} {p q : Int} (hd : FR d p) (hf : FR f q) (h : kw d = kw f) : d = f := by
  have a1 := hd.lt
  have a2 := hd.nz
  have b1 := hf.lt
  have b2 := hf.nz
  unfold kw sg at h
  by_cases x : 9223372036854775808 ≤ d <;> by_cases y : 9223372036854775808 ≤ f
  · rw [decide_eq_true x, decide_eq_true y, if_pos rfl, if_pos rfl] at h; omega
  · rw [decide_eq_true x, decide_eq_false y, if_pos rfl, if_neg Bool.false_ne_true] at h; omega
  · rw [decide_eq_false x, decide_eq_true y, if_pos rfl, if_neg Bool.false_ne_true] at h; omega
  · rw [decide_eq_false x, decide_eq_false y, if_neg Bool.false_ne_true, if_neg Bool.false_ne_true] at h; omega

theorem run_min_float {P : Program} (w : World) (ts : Array TypeId) (t : TypeId) {x y : Nat} {p q : Int} (hx : FR x p) (hy : FR y q) : (Builtin.min_ ts t #[.float .f64 x, .float .f64 y]).run P w = .ok (.float .f64 (fmin x y)) w := by
  have ho : FloatKind.f64.format.order x y = some (compare (kw x) (kw y)) := order_kw hx hy
  rcases (show kw x < kw y ∨ kw x = kw y ∨ kw y < kw x by omega) with h | h | h
  · rw [cmp_lt' h] at ho
    simp [Builtin.min_, Builtin.min2, ho, fmin, h]
  · rw [cmp_eq' h] at ho
    have := kw_inj hx hy h
    subst this
    simp [Builtin.min_, Builtin.min2, ho, fmin]
  · rw [cmp_gt' h] at ho
    have : ¬ kw x < kw y := by omega
    simp [Builtin.min_, Builtin.min2, ho, fmin, this]

theorem run_max_float {P : Program} (w : World) (ts : Array TypeId) (t : TypeId) {x y : Nat} {p q : Int} (hx : FR x p) (hy : FR y q) : (Builtin.max_ ts t #[.float .f64 x, .float .f64 y]).run P w = .ok (.float .f64 (fmax x y)) w := by
  have ho : FloatKind.f64.format.order x y = some (compare (kw x) (kw y)) := order_kw hx hy
  rcases (show kw x < kw y ∨ kw x = kw y ∨ kw y < kw x by omega) with h | h | h
  · rw [cmp_lt' h] at ho
    simp [Builtin.max_, Builtin.max2, ho, fmax, h]
  · rw [cmp_eq' h] at ho
    have := kw_inj hx hy h
    subst this
    simp [Builtin.max_, Builtin.max2, ho, fmax]
  · rw [cmp_gt' h] at ho
    have : ¬ kw x < kw y := by omega
    simp [Builtin.max_, Builtin.max2, ho, fmax, this]

/-- The places of the three kinds of amounts. -/
theorem posF_cases (d : Nat) (h0 : d % 9223372036854775808 ≠ 0) : posF d = if 9223372036854775808 ≤ d then -clampR ((d % 9223372036854775808 : Nat) : Int) else clampR ((d % 9223372036854775808 : Nat) : Int) := by
  unfold posF sgI
  rw [if_neg h0]
  by_cases hd : 9223372036854775808 ≤ d
  · rw [decide_eq_true hd, if_pos rfl, if_pos hd]
  · rw [decide_eq_false hd, if_neg Bool.false_ne_true, if_neg hd]

theorem posF_abs (d : Nat) (h0 : d % 9223372036854775808 ≠ 0) : ((posF d).natAbs : Int) = clampR ((d % 9223372036854775808 : Nat) : Int) := by
  have := clampR_bounds ((d % 9223372036854775808 : Nat) : Int)
  rw [posF_cases d h0]
  split <;> omega

theorem clampR_cases (r : Int) : (r < 553942754166571008 ∧ clampR r = 553942754166571007) ∨ (8660422083433463808 < r ∧ clampR r = 8660422083433463809) ∨ (553942754166571008 ≤ r ∧ r ≤ 8660422083433463808 ∧ clampR r = r) := by
  unfold clampR
  by_cases h1 : r < 553942754166571008
  · left; exact ⟨h1, if_pos h1⟩
  · right
    by_cases h2 : 8660422083433463808 < r
    · left; exact ⟨h2, by rw [if_neg h1, if_pos h2]⟩
    · right; exact ⟨by omega, by omega, by rw [if_neg h1, if_neg h2]⟩

/-- A float is plain where its place is. -/
theorem FR.plain {d : Nat} {p : Int} (h : FR d p) : (plainN d).isSome = plP p := by
  have h1 := h.num
  rw [← h.pos]
  by_cases h0 : d % 9223372036854775808 = 0
  · have : posF d = 0 := by unfold posF; rw [if_pos h0]
    rw [this]
    unfold plainN
    rw [if_pos (by omega)]; rfl
  · have ha := posF_abs d h0
    unfold plainN plP
    rw [if_neg (by omega)]
    rcases clampR_cases ((d % 9223372036854775808 : Nat) : Int) with ⟨c1, c2⟩ | ⟨c1, c2⟩ | ⟨c1, c3, c2⟩
    · rw [if_pos (by omega), decide_eq_false (by omega)]; rfl
    · rw [if_pos (by omega), decide_eq_false (by omega)]; rfl
    · rw [if_neg (by omega)]
      rw [show decide (posF d = 0 ∨ 553942754166571008 ≤ (posF d).natAbs ∧ (posF d).natAbs ≤ 8660422083433463808) = true from decide_eq_true (by omega)]; rfl

/-- The word of a plain place. -/
theorem FR.word {d : Nat} {p : Int} (h : FR d p) (hp : plP p = true) : d = wdP p := by
  have h1 := h.num
  have h2 := h.lt
  have h3 := h.nz
  rw [← h.pos] at hp ⊢
  by_cases h0 : d % 9223372036854775808 = 0
  · have : posF d = 0 := by unfold posF; rw [if_pos h0]
    rw [this]
    show d = 0
    omega
  · have ha := posF_abs d h0
    have hc := posF_cases d h0
    unfold plP at hp
    rw [decide_eq_true_eq] at hp
    unfold wdP wd
    rcases clampR_cases ((d % 9223372036854775808 : Nat) : Int) with ⟨c1, c2⟩ | ⟨c1, c2⟩ | ⟨c1, c3, c2⟩
    · omega
    · omega
    · by_cases hd : 9223372036854775808 ≤ d
      · rw [if_pos hd] at hc
        rw [decide_eq_true (by omega), if_pos rfl]; omega
      · rw [if_neg hd] at hc
        rw [decide_eq_false (by omega), if_neg Bool.false_ne_true]; omega

/-- A plain float's number stands where the float does. -/
theorem posV_plain {b : Nat} {x : Bool × Nat × Int} (hb : b < 18446744073709551616) (h : plainN b = some x) (way : Int) : posV x way = posF b := by
  unfold plainN at h
  split at h
  · rename_i h0
    cases h
    unfold posV posF
    rw [if_pos rfl, if_pos (by omega)]
  · rename_i h0
    split at h
    · cases h
    · rename_i h1
      cases h
      have hm : b % 9223372036854775808 ≠ 0 := by omega
      unfold posV
      simp only
      rw [if_neg (by omega), posF_cases b hm]
      have hbl : bl (b % 4503599627370496 + 4503599627370496) = 53 := bl53 (by omega) (by omega)
      have hr : endR (decide (b / 9223372036854775808 = 1)) (b % 4503599627370496 + 4503599627370496) (((b / 4503599627370496 % 2048 : Nat) : Int) - 1075) way = ((b % 9223372036854775808 : Nat) : Int) := by
        unfold endR rung mf
        rw [inex_small (by omega), hbl, Bool.and_false, if_neg Bool.false_ne_true, if_pos (by omega)]
        simp only [Nat.sub_self, Nat.pow_zero, Nat.mul_one]
        omega
      rw [hr]
      unfold sgI
      by_cases hd : 9223372036854775808 ≤ b
      · rw [decide_eq_true (by omega), if_pos rfl, if_pos hd]
      · rw [decide_eq_false (by omega), if_neg Bool.false_ne_true, if_neg hd]
end Go.Proofs.YtonhpkigoplmaaaGreatDoor
namespace Go.Proofs.YtonhpkigoplmaaaGreatDoor
open Go.RowKit Go.Extern Ieee

/-- A triple stands for z * 2 ^ e. -/
def MeansT (e z : Int) (x : Bool × Nat × Int) : Prop := Means e z x.1 x.2.1 x.2.2

theorem means_self (e z : Int) : MeansT e z (decide (z < 0), z.natAbs, e) := by
  intro c _ _
  unfold sg
  by_cases h : z < 0
  · simp only [decide_eq_true h, if_true]
    rw [Int.natCast_mul, show ((z.natAbs : Nat) : Int) = -z by omega, Int.neg_mul, Int.neg_neg]
  · simp only [decide_eq_false h, Bool.false_eq_true, if_false]
    rw [Int.natCast_mul, show ((z.natAbs : Nat) : Int) = z by omega]

theorem sg_le_cancel {s t : Bool} {n m k : Nat} (hk : 0 < k) (h : sg s (n * k) ≤ sg t (m * k)) : sg s n ≤ sg t m := by
  rw [← sg_mul, ← sg_mul] at h
  exact Int.le_of_mul_le_mul_right h (by omega)

theorem leV_means {e z z' : Int} {x y : Bool × Nat × Int} (hx : MeansT e z x) (hy : MeansT e z' y) (h : z ≤ z') : leV x y := by
  obtain ⟨s, n, p⟩ := x
  obtain ⟨t, m, q⟩ := y
  unfold leV lvA lvB
  simp only
  have a := hx (min e (min p q)) (by simp only; omega) (by omega)
  have b := hy (min e (min p q)) (by simp only; omega) (by omega)
  simp only at a b
  apply sg_le_cancel (k := 2 ^ (min p q - min e (min p q)).toNat) (Nat.two_pow_pos _)
  rw [Nat.mul_assoc, Nat.mul_assoc, ← Nat.pow_add, ← Nat.pow_add]
  rw [show (p - min p q).toNat + (min p q - min e (min p q)).toNat = (p - min e (min p q)).toNat by omega, show (q - min p q).toNat + (min p q - min e (min p q)).toNat = (q - min e (min p q)).toNat by omega, a, b]
  exact Int.mul_le_mul_of_nonneg_right h (Int.natCast_nonneg _)

theorem posV_means {e z : Int} {x : Bool × Nat × Int} (hx : MeansT e z x) (way : Int) (hw : way = -1 ∨ way = 1) : posV x way = posV (decide (z < 0), z.natAbs, e) way := by
  have h1 := posV_mono way hw (leV_means hx (means_self e z) (Int.le_refl _))
  have h2 := posV_mono way hw (leV_means (means_self e z) hx (Int.le_refl _))
  omega

theorem sumN_means {e a b : Int} {x y : Bool × Nat × Int} (hx : MeansT e a x) (hy : MeansT e b y) : MeansT e (a + b) (sumN x.1 x.2.1 x.2.2 y.1 y.2.1 y.2.2) := by
  obtain ⟨s, n, p⟩ := x
  obtain ⟨t, m, q⟩ := y
  simp only
  have key : ∀ c, c ≤ min p q → c ≤ e → (sg s (lvA n p q) + sg t (lvB m p q)) * ((2 ^ (min p q - c).toNat : Nat) : Int) = (a + b) * ((2 ^ (e - c).toNat : Nat) : Int) := by
    intro c h1 h2
    have a' := hx c (by simp only; omega) h2
    have b' := hy c (by simp only; omega) h2
    simp only at a' b'
    rw [Int.add_mul, Int.add_mul, ← a', ← b', sg_mul, sg_mul]
    unfold lvA lvB
    rw [Nat.mul_assoc, Nat.mul_assoc, ← Nat.pow_add, ← Nat.pow_add]
    rw [show (p - min p q).toNat + (min p q - c).toNat = (p - c).toNat by omega, show (q - min p q).toNat + (min p q - c).toNat = (q - c).toNat by omega]
  generalize hA : lvA n p q = A at *
  generalize hB : lvB m p q = B at *
  unfold sumN
  rw [hA, hB]
  by_cases hst : s = t
  · subst hst
    rw [if_pos rfl]
    intro c h1 h2
    rw [← key c h1 h2, ← sg_mul]
    congr 1
    unfold sg
    cases s <;> simp <;> omega
  · rw [if_neg hst]
    have ht : t = !s := by cases s <;> cases t <;> simp_all
    subst ht
    by_cases hAB : A = B
    · rw [if_pos hAB]
      have hz : a + b = 0 := by
        have := key (min (min p q) e) (by omega) (by omega)
        subst hAB
        have e0 : sg s A + sg (!s) A = 0 := by unfold sg; cases s <;> simp <;> omega
        rw [e0, Int.zero_mul] at this
        have hp := Nat.two_pow_pos (e - min (min p q) e).toNat
        rcases Int.mul_eq_zero.1 this.symm with h | h
        · exact h
        · omega
      intro c h1 h2
      rw [hz, Int.zero_mul]
      simp [sg]
    · rw [if_neg hAB]
      by_cases hlt : B < A
      · rw [if_pos hlt]
        intro c h1 h2
        rw [← key c h1 h2, ← sg_mul]
        congr 1
        unfold sg
        cases s <;> simp <;> omega
      · rw [if_neg hlt]
        intro c h1 h2
        rw [← key c h1 h2, ← sg_mul]
        congr 1
        unfold sg
        cases s <;> simp <;> omega

/-- A float at a number's end. -/
theorem FR_end (s : Bool) {n : Nat} {e : Int} (way : Int) (h0 : n ≠ 0) (h1 : 0 < endR s n e way) (h2 : endR s n e way ≤ 9218868437227405312) : FR (wd s (endR s n e way).toNat) (posV (s, n, e) way) := by
  have hp : posV (s, n, e) way = sgI s (clampR (endR s n e way)) := by unfold posV; rw [if_neg h0]
  rw [hp]
  generalize endR s n e way = r at *
  have hm : wd s r.toNat % 9223372036854775808 = r.toNat := by unfold wd; split <;> omega
  refine ⟨wd_lt (by omega), ?_, by omega, ?_⟩
  · intro hc; rw [hc] at hm; omega
  · rw [posF_cases _ (by omega), hm, show ((r.toNat : Nat) : Int) = r by omega]
    unfold sgI wd
    cases s
    · rw [if_neg Bool.false_ne_true, if_neg (by omega), if_neg Bool.false_ne_true]
    · rw [if_pos rfl, if_pos (by omega), if_pos rfl]

theorem FR_zero : FR 0 0 := ⟨by omega, by omega, by omega, rfl⟩

theorem FR_plain {b : Nat} (hb : b < 18446744073709551616) (hz : b ≠ 9223372036854775808) (hp : (plainN b).isSome = true) : FR b (posF b) := by
  refine ⟨hb, hz, ?_, rfl⟩
  apply Decidable.byContradiction
  intro hc
  unfold plainN at hp
  rw [if_neg (by omega), if_pos (by omega)] at hp
  cases hp

theorem rung_bounds {n : Nat} (e : Int) (h0 : n ≠ 0) : (e + bl n + 1022) * 4503599627370496 ≤ rung n e ∧ rung n e < (e + bl n + 1023) * 4503599627370496 := by
  have := mf_bounds (Nat.pos_of_ne_zero h0)
  unfold rung
  omega

theorem endR_bounds (s : Bool) {n : Nat} (e way : Int) : rung n e ≤ endR s n e way ∧ endR s n e way ≤ rung n e + 1 := by
  unfold endR
  split <;> omega

theorem nearI_fd {e z : Int} (h0 : z ≠ 0) (h1 : -1022 ≤ e) (h2 : e + bl z.natAbs ≤ 1021) : fd e (nearI z) = fd e z := by
  have hn : z.natAbs ≠ 0 := by omega
  obtain ⟨f1, f2, f3, f4⟩ := nearM_facts hn
  have habs := nearI_abs z
  have hsgn := nearI_sgn z
  have hlt : decide (nearI z < 0) = decide (z < 0) := by
    apply decide_eq_decide.2
    by_cases h : z < 0
    · have := hsgn.1 h; omega
    · have := hsgn.2 h; omega
  have hN0 : nearI z ≠ 0 := by omega
  rw [fd_wd hN0 ⟨by omega, by rw [habs]; omega⟩, fd_wd h0 ⟨by omega, by omega⟩, habs, hlt, nup_rep f2, f3]
  simp

theorem near_side (z : Int) : (if z - nearI z = 0 then Ordering.eq else if z - nearI z < 0 then .lt else .gt) = side (decide (z < 0)) z.natAbs := by
  obtain ⟨c1, c2, c3, c4, c5⟩ := nearM_cmp z.natAbs
  have hsgn := nearI_sgn z
  unfold side
  by_cases h : z < 0
  · have hs := hsgn.1 h
    rw [decide_eq_true h]
    cases hi : inex z.natAbs
    · have := c1 hi
      rw [if_pos (by omega), if_pos rfl]
    · rw [if_neg (show ¬ true = false by simp)]
      cases hu : nup z.natAbs
      · have := c3 hi hu
        rw [if_neg (by omega), if_pos (by omega)]; rfl
      · have := c2 hi hu
        rw [if_neg (by omega), if_neg (by omega)]; rfl
  · have hs := hsgn.2 h
    rw [decide_eq_false h]
    cases hi : inex z.natAbs
    · have := c1 hi
      rw [if_pos (by omega), if_pos rfl]
    · rw [if_neg (show ¬ true = false by simp)]
      cases hu : nup z.natAbs
      · have := c3 hi hu
        rw [if_neg (by omega), if_neg (by omega)]; rfl
      · have := c2 hi hu
        rw [if_neg (by omega), if_pos (by omega)]; rfl

/-- The ends around z * 2 ^ e. -/
def EndsAt (e z : Int) (d u : Nat) : Prop := FR d (posV (decide (z < 0), z.natAbs, e) (-1)) ∧ FR u (posV (decide (z < 0), z.natAbs, e) 1)

theorem fits8 {e z : Int} {M : Nat} (he1 : -1022 ≤ e) (he2 : e + M ≤ 1010) (h : z.natAbs < 8 * 2 ^ M) : Fits e z ∧ e + bl z.natAbs ≤ 1020 := by
  have : bl z.natAbs ≤ M + 3 := bl_le (by rw [Nat.pow_add]; omega)
  exact ⟨⟨he1, by omega⟩, by omega⟩

theorem near_bound {z : Int} {M : Nat} {k : Nat} (h : z.natAbs ≤ 2 ^ k * 2 ^ M) : (nearI z).natAbs ≤ 2 ^ k * 2 ^ M := by
  have hp : Pw ((2 ^ k * 2 ^ M : Nat) : Int) := ⟨k + M, by rw [Nat.pow_add]⟩
  have r : Rep ((2 ^ k * 2 ^ M : Nat) : Int) := rep_pw hp (Int.dvd_refl _) (by omega)
  have h1 := near_le (z := z) r (by omega)
  have h2 := near_ge (z := z) (rep_neg r) (by omega)
  omega

/-- A call that hands back two ends. -/
def Gives (f : Nat) (args : Array Value) (d u : Nat) : Prop := ∀ w : World, Calls Tryz.prog f args w fun ev w' => ev = .returned (.agg #[.float .f64 d, .float .f64 u]) ∧ Below w.heap.size w w'

/-- The ends, by the nearest float and the remainder. -/
theorem around_ends {e z : Int} {M : Nat} (he1 : -1022 ≤ e) (he2 : e + M ≤ 1010) (hz : z.natAbs < 2 * 2 ^ M) (hr : (z - nearI z).natAbs < 8 * 2 ^ M) :
    ∃ d u, EndsAt e z d u ∧ Gives 141 #[.float .f64 (fd e z), .float .f64 (fd e (z - nearI z))] d u := by
  by_cases h0 : z = 0
  · subst h0
    rw [nearI_zero, Int.sub_self, fd_zero]
    exact ⟨0, 0, ⟨FR_zero, FR_zero⟩, fun w => aroundF_eq 0 0 w rfl⟩
  · obtain ⟨hF, hF2⟩ := fits8 he1 he2 hr
    have hq := ord_fd hF (by omega)
    rw [near_side] at hq
    have hbl : bl z.natAbs ≤ M + 1 := bl_le (by rw [Nat.pow_succ]; omega)
    have hbp := bl_pos (n := z.natAbs) (by omega)
    have hn : z.natAbs ≠ 0 := by omega
    have rb := rung_bounds e hn
    have e1 := endR_bounds (decide (z < 0)) (n := z.natAbs) e (-1)
    have e2 := endR_bounds (decide (z < 0)) (n := z.natAbs) e 1
    exact ⟨_, _, ⟨FR_end _ (-1) hn (by omega) (by omega), FR_end _ 1 hn (by omega) (by omega)⟩, fun w => around_round (decide (z < 0)) z.natAbs e _ w hn (by omega) (by omega) hq⟩

theorem sumG_any {e a b : Int} {M : Nat} (he1 : -1022 ≤ e) (he2 : e + M ≤ 1010) (ha : a.natAbs < 2 ^ M) (hb : b.natAbs < 2 ^ M) (ra : Rep a) (rb : Rep b) (ok : TwoOk a b) :
    ∃ d u, EndsAt e (a + b) d u ∧ Gives 89 #[.float .f64 (fd e a), .float .f64 (fd e b)] d u := by
  unfold TwoOk at ok
  have hN := near_bound (z := a + b) (M := M) (k := 1) (by omega)
  have hV := near_bound (z := nearI (a + b) - a) (M := M) (k := 2) (by omega)
  have rN := nearI_rep (a + b)
  have rV := nearI_rep (nearI (a + b) - a)
  have key : ∀ z : Int, z.natAbs < 8 * 2 ^ M → Fits e z := fun z h => (fits8 he1 he2 h).1
  have fdn : ∀ z : Int, z.natAbs < 8 * 2 ^ M → fd e (nearI z) = fd e z := by
    intro z h
    by_cases h0 : z = 0
    · subst h0; rfl
    · exact nearI_fd h0 he1 (by have := (fits8 he1 he2 h).2; omega)
  obtain ⟨d, u, hE, hA⟩ := around_ends (e := e) (z := a + b) (M := M) he1 he2 (by omega) (by omega)
  have nN := fdn (a + b) (by omega)
  have nV := fdn (nearI (a + b) - a) (by omega)
  generalize nearI (a + b) = N at *
  generalize nearI (N - a) = V at *
  generalize 2 ^ M = g at *
  obtain ⟨o1, o2, o3, o4⟩ := ok
  have h1 := add_fd (key a (by omega)) (key b (by omega)) ra rb (key (a + b) (by omega))
  rw [← nN] at h1
  have h2 := sub_fd (key N (by omega)) (key a (by omega)) rN ra (key (N - a) (by omega))
  rw [← nV] at h2
  have h3 := sub_fd (key N (by omega)) (key V (by omega)) rN rV (key (N - V) (by omega))
  have h4 := sub_fd (key a (by omega)) (key (N - V) (by omega)) ra o1 (key (a - (N - V)) (by omega))
  have h5 := sub_fd (key b (by omega)) (key V (by omega)) rb rV (key (b - V) (by omega))
  have h6 := add_fd (key (a - (N - V)) (by omega)) (key (b - V) (by omega)) o2 o3 (key _ (by omega))
  rw [show a - (N - V) + (b - V) = a + b - N by omega] at h6
  rw [← nN] at hA
  exact ⟨d, u, hE, fun w => sumF_any _ _ _ _ _ _ _ _ _ _ w h1 h2 h3 h4 h5 h6 hA⟩

theorem means_zero (e : Int) (s : Bool) (p : Int) : Means e 0 s 0 p := by
  intro c _ _
  rw [Nat.zero_mul, Int.zero_mul]
  cases s <;> rfl

/-- -0 as the second one. -/
theorem sumG_minus {e a : Int} {M : Nat} (he1 : -1022 ≤ e) (he2 : e + M ≤ 1010) (ha : a.natAbs < 2 ^ M) (ra : Rep a) :
    ∃ d u, EndsAt e a d u ∧ Gives 89 #[.float .f64 (fd e a), .float .f64 9223372036854775808] d u := by
  have key : ∀ z : Int, z.natAbs < 8 * 2 ^ M → Fits e z := fun z h => (fits8 he1 he2 h).1
  obtain ⟨d, u, hE, hA⟩ := around_ends (e := e) (z := a) (M := M) he1 he2 (by omega) (by rw [near_rep ra]; omega)
  rw [near_rep ra, Int.sub_self, fd_zero] at hA
  have h1 : double.add (fd e a) 9223372036854775808 = some (fd e a) := by
    obtain ⟨s, m, p, h1, h2, h3, h4⟩ := read_fd (key a (by omega)) ra
    have hz : double.read 9223372036854775808 = .number true 0 (-1074) := rfl
    unfold Format.add
    rw [h1, hz]
    have := sum_means h2 (means_zero e true (-1074)) (by rw [Int.add_zero]; exact key a (by omega)) (fun h => by rw [h3 (by omega)]; rfl)
    rwa [Int.add_zero] at this
  have h2 := sub_fd (key a (by omega)) (key a (by omega)) ra ra (by rw [Int.sub_self]; exact key 0 (by omega))
  rw [Int.sub_self, fd_zero] at h2
  have h3 := sub_fd (key a (by omega)) (key 0 (by omega)) ra rep_zero (by rw [Int.sub_zero]; exact key a (by omega))
  rw [Int.sub_zero, fd_zero] at h3
  have h5 : double.sub 9223372036854775808 0 = some 9223372036854775808 := rfl
  have h6 : double.add 0 9223372036854775808 = some 0 := rfl
  exact ⟨d, u, hE, fun w => sumF_any _ _ _ _ _ _ _ _ _ _ w h1 h2 h3 h2 h5 h6 hA⟩
end Go.Proofs.YtonhpkigoplmaaaGreatDoor
namespace Go.Proofs.YtonhpkigoplmaaaGreatDoor
open Go.RowKit Go.Extern Ieee

/-- A plain float's number in units of 2 ^ -953. -/
def vp (x : Bool × Nat × Int) : Int := sg x.1 (x.2.1 * 2 ^ (x.2.2 + 953).toNat)

/-- What is known of a plain float's number. -/
def Plnum (x : Bool × Nat × Int) : Prop := (x = (false, 0, 0)) ∨ (4503599627370496 ≤ x.2.1 ∧ x.2.1 < 9007199254740992 ∧ -952 ≤ x.2.2 ∧ x.2.2 ≤ 848)

theorem plain_num {b : Nat} {x : Bool × Nat × Int} (h : plainN b = some x) : Plnum x := by
  unfold plainN at h
  split at h
  · cases h; left; rfl
  · split at h
    · cases h
    · cases h
      right
      simp only
      omega

theorem Plnum.means {x : Bool × Nat × Int} (h : Plnum x) : MeansT (-953) (vp x) x := by
  obtain ⟨s, n, e⟩ := x
  intro c h1 h2
  unfold vp
  simp only at *
  rw [sg_mul, Nat.mul_assoc, ← Nat.pow_add]
  rcases h with h | h
  · cases h; simp
  · simp only at h
    congr 3
    omega

theorem Plnum.vp_abs {x : Bool × Nat × Int} (_h : Plnum x) : (vp x).natAbs = x.2.1 * 2 ^ (x.2.2 + 953).toNat := (sg_natAbs rfl).symm

theorem vp_zero : vp (false, 0, 0) = 0 := by
  unfold vp
  rw [Nat.zero_mul]; rfl

theorem Plnum.rep {x : Bool × Nat × Int} (h : Plnum x) : Rep (vp x) := by
  show inex _ = false
  rw [h.vp_abs]
  rcases h with h | h
  · cases h
    rw [Nat.zero_mul]; rfl
  · exact inex_shift (by omega) _ (inex_small (by rw [bl53 h.1 h.2.1]; omega))

theorem pow_mono {a b : Nat} (h : a ≤ b) : (2 : Nat) ^ a ≤ 2 ^ b := Nat.pow_le_pow_right (by decide) h

/-- Bits of the greatest plain float in these units. -/
def plN : Nat := 1802
def plM : Nat := 53 + plN
theorem plN_eq : plN = 1802 := rfl
theorem plM_eq : plM = 53 + plN := rfl

theorem Plnum.lt {x : Bool × Nat × Int} (h : Plnum x) : (vp x).natAbs < 2 ^ plM := by
  rw [h.vp_abs]
  rcases h with h | h
  · cases h
    rw [Nat.zero_mul]; exact Nat.two_pow_pos _
  · have h1 : (2 : Nat) ^ (x.2.2 + 953).toNat ≤ 2 ^ plN := pow_mono (by have := plN_eq; omega)
    rw [plM_eq, Nat.pow_add]
    exact Nat.lt_of_lt_of_le (Nat.mul_lt_mul_of_pos_right (by rw [p53]; exact h.2.1) (Nat.two_pow_pos _)) (Nat.mul_le_mul_left _ h1)

theorem Plnum.big {x : Bool × Nat × Int} (h : Plnum x) : vp x = 0 ∨ 9007199254740992 ≤ (vp x).natAbs := by
  rcases h with h | h
  · cases h; left; exact vp_zero
  · right
    rw [Plnum.vp_abs (Or.inr h)]
    have h1 : (2 : Nat) ^ 1 ≤ 2 ^ (x.2.2 + 953).toNat := pow_mono (by omega)
    have := Nat.mul_le_mul h.1 h1
    omega

theorem plain_fd {b : Nat} {x : Bool × Nat × Int} (hb : b < 18446744073709551616) (hz : b ≠ 9223372036854775808) (h : plainN b = some x) : b = fd (-953) (vp x) := by
  have hp := plain_num h
  have hpos := posV_plain hb h 1
  unfold plainN at h
  split at h
  · cases h
    rw [vp_zero, fd_zero]; omega
  · rename_i h0
    split at h
    · cases h
    · rename_i h1
      cases h
      have hbl : bl (b % 4503599627370496 + 4503599627370496) = 53 := bl53 (by omega) (by omega)
      have hn : b % 4503599627370496 + 4503599627370496 ≠ 0 := by omega
      have habs := hp.vp_abs
      have hrep := hp.rep
      simp only at habs
      have hbs := bl_shift hn (((b / 4503599627370496 % 2048 : Nat) : Int) - 1075 + 953).toNat
      rw [← habs] at hbs
      have hnz : vp (decide (b / 9223372036854775808 = 1), b % 4503599627370496 + 4503599627370496, ((b / 4503599627370496 % 2048 : Nat) : Int) - 1075) ≠ 0 := by
        intro hc
        rw [hc] at habs
        have := Nat.mul_pos (Nat.pos_of_ne_zero hn) (Nat.two_pow_pos (((b / 4503599627370496 % 2048 : Nat) : Int) - 1075 + 953).toNat)
        rw [← habs] at this
        exact absurd this (by decide)
      rw [fd_wd hnz ⟨by omega, by omega⟩, nup_rep hrep, habs, rung_shift hn]
      have hr : rung (b % 4503599627370496 + 4503599627370496) (-953 + (((((b / 4503599627370496 % 2048 : Nat) : Int) - 1075 + 953).toNat : Nat) : Int)) = ((b % 9223372036854775808 : Nat) : Int) := by
        unfold rung mf
        rw [hbl, if_pos (by omega)]
        simp only [Nat.sub_self, Nat.pow_zero, Nat.mul_one]
        omega
      rw [hr]
      have hs : decide (vp (decide (b / 9223372036854775808 = 1), b % 4503599627370496 + 4503599627370496, ((b / 4503599627370496 % 2048 : Nat) : Int) - 1075) < 0) = decide (9223372036854775808 ≤ b) := by
        have hpp := Nat.mul_pos (Nat.pos_of_ne_zero hn) (Nat.two_pow_pos (((b / 4503599627370496 % 2048 : Nat) : Int) - 1075 + 953).toNat)
        apply decide_eq_decide.2
        unfold vp sg
        simp only
        generalize (b % 4503599627370496 + 4503599627370496) * 2 ^ (((b / 4503599627370496 % 2048 : Nat) : Int) - 1075 + 953).toNat = g at *
        by_cases hd : 9223372036854775808 ≤ b
        · rw [decide_eq_true (show b / 9223372036854775808 = 1 by omega), if_pos rfl]; omega
        · rw [decide_eq_false (show ¬ b / 9223372036854775808 = 1 by omega), if_neg Bool.false_ne_true]; omega
      rw [hs]
      simp only [Bool.false_eq_true, if_false, Int.add_zero, Int.toNat_natCast]
      exact (wd_self hb).symm

/-- The two ends of a number, as floats. -/
def Ends (x : Bool × Nat × Int) (d u : Nat) : Prop := FR d (posV x (-1)) ∧ FR u (posV x 1)

theorem ends_at {e z : Int} {x : Bool × Nat × Int} {d u : Nat} (h : EndsAt e z d u) (hx : MeansT e z x) : Ends x d u := by
  unfold Ends
  rw [posV_means hx (-1) (Or.inl rfl), posV_means hx 1 (Or.inr rfl)]
  exact h

theorem sum_plain {x y : Nat} {p q : Bool × Nat × Int} (hx : x < 18446744073709551616) (hy : y < 18446744073709551616) (hxz : x ≠ 9223372036854775808) (px : plainN x = some p) (py : plainN y = some q) :
    ∃ d u, Ends (sumN p.1 p.2.1 p.2.2 q.1 q.2.1 q.2.2) d u ∧ Gives 89 #[.float .f64 x, .float .f64 y] d u := by
  have np := plain_num px
  have nq := plain_num py
  have ms := sumN_means np.means nq.means
  by_cases hyz : y = 9223372036854775808
  · have hq0 : vp q = 0 := by
      subst hyz
      have : plainN 9223372036854775808 = some (false, 0, 0) := rfl
      rw [this] at py
      cases py; exact vp_zero
    obtain ⟨d, u, hE, hG⟩ := sumG_minus (e := -953) (a := vp p) (M := plM) (by omega) (by have := plM_eq; have := plN_eq; omega) np.lt np.rep
    rw [hq0, Int.add_zero] at ms
    rw [plain_fd hx hxz px, hyz]
    exact ⟨d, u, ends_at hE ms, hG⟩
  · obtain ⟨d, u, hE, hG⟩ := sumG_any (e := -953) (a := vp p) (b := vp q) (M := plM) (by omega) (by have := plM_eq; have := plN_eq; omega) np.lt nq.lt np.rep nq.rep (two_sum np.rep nq.rep np.big nq.big)
    rw [plain_fd hx hxz px, plain_fd hy hyz py]
    exact ⟨d, u, ends_at hE ms, hG⟩
end Go.Proofs.YtonhpkigoplmaaaGreatDoor
