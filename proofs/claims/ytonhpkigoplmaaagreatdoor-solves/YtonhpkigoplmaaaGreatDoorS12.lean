/-
  SolS, SolT, JdgD, BoxL, JdgE.
-/
import Derived.Test.YtonhpkigoplmaaaGreatDoorS11
import Derived.Test.YtonhpkigoplmaaaGreatDoorS10
import Derived.Test.YtonhpkigoplmaaaGreatDoorS08
import Derived.Deep.RegionHeld3
import Derived.Deep.RegionLaw
import Derived.Test.YtonhpkigoplmaaaGreatDoorS05
namespace Go.Proofs.YtonhpkigoplmaaaGreatDoor
open Go.RowKit Go.Extern Ieee

/-- A word's number. -/
def valW (w : Nat) : Rat := valQ (plT w)

/-- widened, by two places. -/
def wideX (p q : Int) : Option (Nat × Nat) := if plP (pbP p) = true ∧ plP (paP q) = true then some (wdP (pbP p), wdP (paP q)) else none

def cornX (f : Bool × Nat × Int → Bool × Nat × Int → Bool × Nat × Int) (a b : Nat × Nat) : Option (Nat × Nat) :=
  wideX (min (min (min (posV (f (plT a.1) (plT b.1)) (-1)) (posV (f (plT a.1) (plT b.2)) (-1))) (posV (f (plT a.2) (plT b.1)) (-1))) (posV (f (plT a.2) (plT b.2)) (-1)))
    (max (max (max (posV (f (plT a.1) (plT b.1)) 1) (posV (f (plT a.1) (plT b.2)) 1)) (posV (f (plT a.2) (plT b.1)) 1)) (posV (f (plT a.2) (plT b.2)) 1))
def muX (a b : Nat × Nat) : Option (Nat × Nat) := cornX prodN a b
def quX (a b : Nat × Nat) : Option (Nat × Nat) := cornX quoN a b
def suX (a b : Nat × Nat) : Option (Nat × Nat) := wideX (posV (sumT (plT a.1) (negT (plT b.2))) (-1)) (posV (sumT (plT a.2) (negT (plT b.1))) 1)

theorem fr_pl {p : Int} (h : plP p = true) : FR (wdP p) p := by
  unfold plP at h
  rw [decide_eq_true_eq] at h
  unfold wdP
  by_cases h0 : p = 0
  · subst h0; exact FR_zero
  · have e1 : wd (decide (p < 0)) p.natAbs % 9223372036854775808 = p.natAbs := by unfold wd; split <;> omega
    refine ⟨by unfold wd; split <;> omega, by unfold wd; split <;> omega, by omega, ?_⟩
    unfold posF
    rw [e1, if_neg (by omega)]
    have hc : clampR ((p.natAbs : Nat) : Int) = p.natAbs := by unfold clampR; rw [if_neg (by omega), if_neg (by omega)]
    rw [hc]
    unfold sgI
    by_cases hn : p < 0
    · have : 9223372036854775808 ≤ wd (decide (p < 0)) p.natAbs := by unfold wd; rw [decide_eq_true hn, if_pos rfl]; omega
      rw [decide_eq_true this, if_pos rfl]; omega
    · have : ¬ 9223372036854775808 ≤ wd (decide (p < 0)) p.natAbs := by unfold wd; rw [decide_eq_false hn, if_neg Bool.false_ne_true]; omega
      rw [decide_eq_false this, if_neg Bool.false_ne_true]; omega

theorem iv_pl {p q : Int} (h1 : plP p = true) (h2 : plP q = true) (h : p ≤ q) : Iv (wdP p) (wdP q) := by
  have f1 := fr_pl h1
  have f2 := fr_pl h2
  exact ⟨f1.lt, f2.lt, f1.nz, f2.nz, plT_some (by rw [f1.plain]; exact h1), plT_some (by rw [f2.plain]; exact h2), by rw [f1.pos, f2.pos]; exact h⟩

theorem Iv.w1 {l h : Nat} (i : Iv l h) : valW l = pq (posF l) := by
  unfold valW
  have := pq_word i.q1
  rwa [← i.f1.word i.q1] at this
theorem Iv.w2 {l h : Nat} (i : Iv l h) : valW h = pq (posF h) := by
  unfold valW
  have := pq_word i.q2
  rwa [← i.f2.word i.q2] at this
theorem Iv.vle {l h : Nat} (i : Iv l h) : valW l ≤ valW h := by rw [i.w1, i.w2]; exact pq_mono i.le

theorem plP_bounds {p : Int} (h : plP p = true) : -8660422083433463808 ≤ p ∧ p ≤ 8660422083433463808 := by
  unfold plP at h
  rw [decide_eq_true_eq] at h
  omega

theorem paP_mono {p q : Int} (h : p ≤ q) : paP p ≤ paP q := by unfold paP; have := pbP_mono (p := -q) (q := -p) (by omega); omega
theorem le_paP (p : Int) : p ≤ paP p := by unfold paP; have := pbP_le (-p); omega

/-- A widened interval around numbers. -/
theorem wide_some {p q : Int} {c : Nat × Nat} (h : wideX p q = some c) (hpq : p ≤ q) : Iv c.1 c.2 ∧ valW c.1 = pq (pbP p) ∧ valW c.2 = pq (paP q) ∧ -8660422083433463808 ≤ p ∧ q ≤ 8660422083433463808 := by
  unfold wideX at h
  split at h
  · rename_i hp
    obtain rfl := Option.some.inj h
    have b1 := plP_bounds hp.1
    have b2 := plP_bounds hp.2
    have l1 := pbP_le p
    have l2 := le_paP q
    exact ⟨iv_pl hp.1 hp.2 (by omega), pq_word hp.1, pq_word hp.2, by omega, by omega⟩
  · cases h

/-- Below all of the corners, below all between. -/
theorem corner_low {a1 a2 b1 b2 x y L : Rat} (hx : a1 ≤ x ∧ x ≤ a2) (hy : b1 ≤ y ∧ y ≤ b2) (h1 : L ≤ a1 * b1) (h2 : L ≤ a1 * b2) (h3 : L ≤ a2 * b1) (h4 : L ≤ a2 * b2) : L ≤ x * y := by
  have key : ∀ b, L ≤ a1 * b → L ≤ a2 * b → L ≤ x * b := by
    intro b k1 k2
    rcases (show 0 ≤ b ∨ b ≤ 0 by grind) with hb | hb
    · have := mul_le_r hb hx.1; grind
    · have := mul_le_r (show 0 ≤ -b by grind) hx.2; grind
  have k1 := key b1 h1 h3
  have k2 := key b2 h2 h4
  rcases (show 0 ≤ x ∨ x ≤ 0 by grind) with h | h
  · have := mul_le_l h hy.1; grind
  · have := mul_le_l (show 0 ≤ -x by grind) hy.2; grind
theorem corner_high {a1 a2 b1 b2 x y L : Rat} (hx : a1 ≤ x ∧ x ≤ a2) (hy : b1 ≤ y ∧ y ≤ b2) (h1 : a1 * b1 ≤ L) (h2 : a1 * b2 ≤ L) (h3 : a2 * b1 ≤ L) (h4 : a2 * b2 ≤ L) : x * y ≤ L := by
  have := corner_low (a1 := -a2) (a2 := -a1) (x := -x) (L := -L) (by grind) hy (by grind) (by grind) (by grind) (by grind)
  grind

theorem min4_pick (a b c d : Int) : min (min (min a b) c) d = a ∨ min (min (min a b) c) d = b ∨ min (min (min a b) c) d = c ∨ min (min (min a b) c) d = d := by omega
theorem max4_pick (a b c d : Int) : max (max (max a b) c) d = a ∨ max (max (max a b) c) d = b ∨ max (max (max a b) c) d = c ∨ max (max (max a b) c) d = d := by omega

/-- The corners: their ends, and near to which they are. -/
theorem corn_ends {f : Bool × Nat × Int → Bool × Nat × Int → Bool × Nat × Int} {a b : Nat × Nat} {g : Nat → Nat → Rat} (hb : ∀ i j, (i = a.1 ∨ i = a.2) → (j = b.1 ∨ j = b.2) → BR (f (plT i) (plT j)) (g i j)) :
    (∀ c, cornX f a b = some c → Iv c.1 c.2 ∧ ∀ i j, (i = a.1 ∨ i = a.2) → (j = b.1 ∨ j = b.2) → valW c.1 ≤ g i j ∧ g i j ≤ valW c.2) ∧
    (∀ B, (∀ i j, (i = a.1 ∨ i = a.2) → (j = b.1 ∨ j = b.2) → bd B (g i j)) → B ≤ pw 899 → ∃ c, cornX f a b = some c ∧ Iv c.1 c.2 ∧ (∃ i j, (i = a.1 ∨ i = a.2) ∧ (j = b.1 ∨ j = b.2) ∧ Rnd (pw (-900)) (valW c.1) (g i j)) ∧ (∃ i j, (i = a.1 ∨ i = a.2) ∧ (j = b.1 ∨ j = b.2) ∧ Rnd (pw (-900)) (valW c.2) (g i j))) := by
  unfold cornX
  have p : ∀ i j, (i = a.1 ∨ i = a.2) → (j = b.1 ∨ j = b.2) → posV (f (plT i) (plT j)) (-1) ≤ posV (f (plT i) (plT j)) 1 := fun i j _ _ => posV_le _
  have lows : ∀ i j, (i = a.1 ∨ i = a.2) → (j = b.1 ∨ j = b.2) → min (min (min (posV (f (plT a.1) (plT b.1)) (-1)) (posV (f (plT a.1) (plT b.2)) (-1))) (posV (f (plT a.2) (plT b.1)) (-1))) (posV (f (plT a.2) (plT b.2)) (-1)) ≤ posV (f (plT i) (plT j)) (-1) := by
    rintro i j (rfl | rfl) (rfl | rfl) <;> omega
  have highs : ∀ i j, (i = a.1 ∨ i = a.2) → (j = b.1 ∨ j = b.2) → posV (f (plT i) (plT j)) 1 ≤ max (max (max (posV (f (plT a.1) (plT b.1)) 1) (posV (f (plT a.1) (plT b.2)) 1)) (posV (f (plT a.2) (plT b.1)) 1)) (posV (f (plT a.2) (plT b.2)) 1) := by
    rintro i j (rfl | rfl) (rfl | rfl) <;> omega
  have pickL : ∃ i j, (i = a.1 ∨ i = a.2) ∧ (j = b.1 ∨ j = b.2) ∧ min (min (min (posV (f (plT a.1) (plT b.1)) (-1)) (posV (f (plT a.1) (plT b.2)) (-1))) (posV (f (plT a.2) (plT b.1)) (-1))) (posV (f (plT a.2) (plT b.2)) (-1)) = posV (f (plT i) (plT j)) (-1) := by
    rcases min4_pick (posV (f (plT a.1) (plT b.1)) (-1)) (posV (f (plT a.1) (plT b.2)) (-1)) (posV (f (plT a.2) (plT b.1)) (-1)) (posV (f (plT a.2) (plT b.2)) (-1)) with h | h | h | h
    · exact ⟨_, _, .inl rfl, .inl rfl, h⟩
    · exact ⟨_, _, .inl rfl, .inr rfl, h⟩
    · exact ⟨_, _, .inr rfl, .inl rfl, h⟩
    · exact ⟨_, _, .inr rfl, .inr rfl, h⟩
  have pickH : ∃ i j, (i = a.1 ∨ i = a.2) ∧ (j = b.1 ∨ j = b.2) ∧ max (max (max (posV (f (plT a.1) (plT b.1)) 1) (posV (f (plT a.1) (plT b.2)) 1)) (posV (f (plT a.2) (plT b.1)) 1)) (posV (f (plT a.2) (plT b.2)) 1) = posV (f (plT i) (plT j)) 1 := by
    rcases max4_pick (posV (f (plT a.1) (plT b.1)) 1) (posV (f (plT a.1) (plT b.2)) 1) (posV (f (plT a.2) (plT b.1)) 1) (posV (f (plT a.2) (plT b.2)) 1) with h | h | h | h
    · exact ⟨_, _, .inl rfl, .inl rfl, h⟩
    · exact ⟨_, _, .inl rfl, .inr rfl, h⟩
    · exact ⟨_, _, .inr rfl, .inl rfl, h⟩
    · exact ⟨_, _, .inr rfl, .inr rfl, h⟩
  generalize min (min (min (posV (f (plT a.1) (plT b.1)) (-1)) (posV (f (plT a.1) (plT b.2)) (-1))) (posV (f (plT a.2) (plT b.1)) (-1))) (posV (f (plT a.2) (plT b.2)) (-1)) = P at *
  generalize max (max (max (posV (f (plT a.1) (plT b.1)) 1) (posV (f (plT a.1) (plT b.2)) 1)) (posV (f (plT a.2) (plT b.1)) 1)) (posV (f (plT a.2) (plT b.2)) 1) = Q at *
  have hPQ : P ≤ Q := by
    have a1 := lows a.1 b.1 (.inl rfl) (.inl rfl)
    have a2 := highs a.1 b.1 (.inl rfl) (.inl rfl)
    have a3 := p a.1 b.1 (.inl rfl) (.inl rfl)
    omega
  constructor
  · intro c hc
    obtain ⟨iv, v1, v2, h1, h2⟩ := wide_some hc hPQ
    refine ⟨iv, fun i j hi hj => ?_⟩
    have l := lows i j hi hj
    have h := highs i j hi hj
    have e1 := (end_low (hb i j hi hj)).1 (by omega)
    have e2 := (end_high (hb i j hi hj)).1 (by omega)
    have m1 := pq_mono (pbP_mono l)
    have m2 := pq_mono (paP_mono h)
    rw [v1, v2]
    constructor <;> grind
  · intro B hB hBig
    obtain ⟨i, j, hi, hj, rfl⟩ := pickL
    obtain ⟨k, l, hk, hl, rfl⟩ := pickH
    obtain ⟨q1, r1⟩ := (end_low (hb i j hi hj)).2 (bd_le (hB i j hi hj) hBig)
    obtain ⟨q2, r2⟩ := (end_high (hb k l hk hl)).2 (bd_le (hB k l hk hl) hBig)
    have hc : wideX (posV (f (plT i) (plT j)) (-1)) (posV (f (plT k) (plT l)) 1) = some (wdP (pbP (posV (f (plT i) (plT j)) (-1))), wdP (paP (posV (f (plT k) (plT l)) 1))) := by unfold wideX; rw [if_pos ⟨q1, q2⟩]
    obtain ⟨iv, v1, v2, _, _⟩ := wide_some hc hPQ
    refine ⟨_, hc, iv, ⟨i, j, hi, hj, ?_⟩, ⟨k, l, hk, hl, ?_⟩⟩
    · rw [v1]; exact r1
    · rw [v2]; exact r2

def memW (a : Nat × Nat) (x : Rat) : Prop := valW a.1 ≤ x ∧ x ≤ valW a.2
def ivW (a : Nat × Nat) : Prop := Iv a.1 a.2

theorem br_mul (i j : Nat) : BR (prodN (plT i) (plT j)) (valW i * valW j) := by
  have := br_exact (prodN (plT i) (plT j))
  rwa [val_prod] at this
theorem br_sub (i j : Nat) : BR (sumT (plT i) (negT (plT j))) (valW i - valW j) := by
  have := br_exact (sumT (plT i) (negT (plT j)))
  rw [val_sum, val_neg] at this
  rwa [show valQ (plT i) + -valQ (plT j) = valW i - valW j by unfold valW; grind] at this

theorem mu_mem {a b c : Nat × Nat} {x y : Rat} (h : muX a b = some c) (hx : memW a x) (hy : memW b y) : memW c (x * y) := by
  have := (corn_ends (f := prodN) (a := a) (b := b) (g := fun i j => valW i * valW j) (fun i j _ _ => br_mul i j)).1 c h
  obtain ⟨_, k⟩ := this
  have k1 := k a.1 b.1 (.inl rfl) (.inl rfl)
  have k2 := k a.1 b.2 (.inl rfl) (.inr rfl)
  have k3 := k a.2 b.1 (.inr rfl) (.inl rfl)
  have k4 := k a.2 b.2 (.inr rfl) (.inr rfl)
  exact ⟨corner_low hx hy k1.1 k2.1 k3.1 k4.1, corner_high hx hy k1.2 k2.2 k3.2 k4.2⟩

theorem mu_iv {a b c : Nat × Nat} (h : muX a b = some c) : ivW c := ((corn_ends (f := prodN) (a := a) (b := b) (g := fun i j => valW i * valW j) (fun i j _ _ => br_mul i j)).1 c h).1

theorem su_le {a b : Nat × Nat} (ha : ivW a) (hb : ivW b) : posV (sumT (plT a.1) (negT (plT b.2))) (-1) ≤ posV (sumT (plT a.2) (negT (plT b.1))) 1 := by
  have h1 := posV_le (sumT (plT a.1) (negT (plT b.2)))
  have h2 : leV (sumT (plT a.1) (negT (plT b.2))) (sumT (plT a.2) (negT (plT b.1))) := by
    have A := iv_leV ha
    have B := iv_leV hb
    obtain ⟨x, hx⟩ : ∃ x, x = plT a.1 := ⟨_, rfl⟩
    obtain ⟨y, hy⟩ : ∃ y, y = plT a.2 := ⟨_, rfl⟩
    obtain ⟨z, hz⟩ : ∃ z, z = plT b.1 := ⟨_, rfl⟩
    obtain ⟨t, ht⟩ : ∃ t, t = plT b.2 := ⟨_, rfl⟩
    rw [← hx, ← hy] at A
    rw [← hz, ← ht] at B
    rw [← hx, ← hy, ← hz, ← ht]
    have e : ∃ e : Int, e ≤ x.2.2 ∧ e ≤ y.2.2 ∧ e ≤ z.2.2 ∧ e ≤ t.2.2 := ⟨min (min x.2.2 y.2.2) (min z.2.2 t.2.2), by omega, by omega, by omega, by omega⟩
    obtain ⟨e, e1, e2, e3, e4⟩ := e
    have lA := leV_means2 A e1 e2
    have lB := leV_means2 B e3 e4
    exact leV_means (sumN_means (means_low2 x e1) (means_neg (means_low2 t e4))) (sumN_means (means_low2 y e2) (means_neg (means_low2 z e3))) (by omega)
  have h3 := posV_mono 1 (.inr rfl) h2
  omega

theorem su_mem {a b c : Nat × Nat} {x y : Rat} (ia : ivW a) (ib : ivW b) (h : suX a b = some c) (hx : memW a x) (hy : memW b y) : memW c (x - y) := by
  obtain ⟨iv, v1, v2, h1, h2⟩ := wide_some h (su_le ia ib)
  have e1 := (end_low (br_sub a.1 b.2)).1 h1
  have e2 := (end_high (br_sub a.2 b.1)).1 h2
  unfold memW at *
  rw [v1, v2]
  constructor <;> grind

theorem su_iv {a b c : Nat × Nat} (ia : ivW a) (ib : ivW b) (h : suX a b = some c) : ivW c := (wide_some h (su_le ia ib)).1
end Go.Proofs.YtonhpkigoplmaaaGreatDoor
namespace Go.Proofs.YtonhpkigoplmaaaGreatDoor
open Go.RowKit Go.Extern Ieee

/-- A word without its sign; the least and the greatest amount of an interval; a float's quotient. -/
def absW (w : Nat) : Nat := w % 9223372036854775808
def lsW (a : Nat × Nat) : Nat := if holdsT (plT a.1) (plT a.2) = true then 0 else fmin (absW a.1) (absW a.2)
def gtW (a : Nat × Nat) : Nat := fmax (absW a.1) (absW a.2)
def dvW (x y : Nat) : Nat := (double.div x y).getD 0

def shJ (row : Nat → Nat × Nat) (least best : Nat) : Nat → Nat → Nat → Option Nat
  | 0, _, sh => some sh
  | f + 1, j, sh => if kw (fmin sh (dvW least (gtW (row j)))) ≤ kw best then none else shJ row least best f (j + 1) (fmin sh (dvW least (gtW (row j))))

def pvI (M : Nat → Nat → Nat × Nat) (n k : Nat) : Nat → Nat → Nat → Option Nat → Option Nat
  | 0, _, _, at_ => at_
  | f + 1, i, best, at_ => if lsW (M i k) = 0 then pvI M n k f (i + 1) best at_ else match shJ (M i) (lsW (M i k)) best (n - k) k 4607182418800017408 with
    | none => pvI M n k f (i + 1) best at_
    | some s => pvI M n k f (i + 1) s (some i)

def pvX (M : Nat → Nat → Nat × Nat) (n k : Nat) : Option Nat := pvI M n k (n - k) k 0 none

theorem pvI_some {M : Nat → Nat → Nat × Nat} {n k a : Nat} : ∀ (f i best : Nat) (at_ : Option Nat), pvI M n k f i best at_ = some a → (at_ = some a ∨ (i ≤ a ∧ a < i + f ∧ lsW (M a k) ≠ 0))
  | 0, _, _, _, h => .inl h
  | f + 1, i, best, at_, h => by
    unfold pvI at h
    split at h
    · rcases pvI_some f (i + 1) best at_ h with h | ⟨h1, h2, h3⟩
      · exact .inl h
      · exact .inr ⟨by omega, by omega, h3⟩
    · rename_i hl
      split at h
      · rcases pvI_some f (i + 1) best at_ h with h | ⟨h1, h2, h3⟩
        · exact .inl h
        · exact .inr ⟨by omega, by omega, h3⟩
      · rcases pvI_some f (i + 1) _ _ h with h | ⟨h1, h2, h3⟩
        · obtain rfl := Option.some.inj h
          exact .inr ⟨by omega, by omega, hl⟩
        · exact .inr ⟨by omega, by omega, h3⟩

theorem sgn_val (x : Bool × Nat × Int) : (sgnI x.1 x.2.1 ≤ 0 ↔ valQ x ≤ 0) ∧ (0 ≤ sgnI x.1 x.2.1 ↔ 0 ≤ valQ x) := by
  have hp := pw_pos x.2.2
  unfold sgnI valQ sg
  by_cases h0 : x.2.1 = 0
  · rw [if_pos h0, h0]
    cases x.1 <;> simp
  · rw [if_neg h0]
    have hn : (0 : Rat) < ((x.2.1 : Nat) : Rat) := Rat.natCast_pos.2 (by omega)
    have := Rat.mul_pos hn hp
    cases x.1
    · simp only [Bool.false_eq_true, if_false]
      rw [Rat.intCast_natCast]
      constructor
      · constructor <;> intro h
        · omega
        · grind
      · constructor <;> intro h
        · grind
        · omega
    · simp only [if_true]
      rw [Rat.intCast_neg, Rat.intCast_natCast]
      constructor
      · constructor <;> intro h
        · grind
        · omega
      · constructor <;> intro h
        · omega
        · grind

theorem holds_val (a : Nat × Nat) : holdsT (plT a.1) (plT a.2) = true ↔ memW a 0 := by
  unfold holdsT memW valW
  rw [Bool.and_eq_true, decide_eq_true_eq, decide_eq_true_eq, (sgn_val _).1, (sgn_val _).2]

def memO (a : Nat × Nat) (x : Rat) : Prop := ivW a ∧ memW a x

theorem inv_between {b1 b2 y : Rat} (hy : b1 ≤ y ∧ y ≤ b2) (h : 0 < b1 ∨ b2 < 0) : 1 / b2 ≤ 1 / y ∧ 1 / y ≤ 1 / b1 := by
  have key : ∀ u v : Rat, u ≤ v → (0 < u ∨ v < 0) → 1 / v ≤ 1 / u := by
    intro u v huv hs
    have hu : u ≠ 0 := by grind
    have hv : v ≠ 0 := by grind
    have huv0 : 0 < u * v := by
      rcases hs with hs | hs
      · exact Rat.mul_pos hs (by grind)
      · have := Rat.mul_pos (show 0 < -u by grind) (show 0 < -v by grind)
        grind
    apply Decidable.byContradiction
    intro hc
    have := Rat.mul_pos (show 0 < 1 / v - 1 / u by grind) huv0
    have e1 : 1 / v * (u * v) = u := by grind
    have e2 : 1 / u * (u * v) = v := by grind
    grind
  constructor
  · exact key y b2 hy.2 (by grind)
  · exact key b1 y hy.1 (by grind)

theorem out_sides {b : Nat × Nat} (i : ivW b) (h : ¬ memW b 0) : 0 < valW b.1 ∨ valW b.2 < 0 := by
  have := Iv.vle i
  unfold memW at h
  grind

theorem val_ne {w : Nat} (h : valW w ≠ 0) : (plT w).2.1 ≠ 0 := fun hc => h (val_zero hc)

theorem br_quoW {a b : Nat × Nat} (ia : ivW a) (ib : ivW b) (h : ¬ memW b 0) : ∀ i j, (i = a.1 ∨ i = a.2) → (j = b.1 ∨ j = b.2) → BR (quoN (plT i) (plT j)) (valW i / valW j) := by
  intro i j hi hj
  have hs := out_sides ib h
  have hle := Iv.vle ib
  have h0 : valW j ≠ 0 := by rcases hj with rfl | rfl <;> grind
  have hi2 : Plnum (plT i) := by
    rcases hi with rfl | rfl
    · exact plain_num ia.p1
    · exact plain_num ia.p2
  have hj2 : Plnum (plT j) := by
    rcases hj with rfl | rfl
    · exact plain_num ib.p1
    · exact plain_num ib.p2
  exact br_quo hi2 hj2 (val_ne h0)

theorem qu_mem {a b c : Nat × Nat} {x y : Rat} (ia : ivW a) (ib : ivW b) (h0 : ¬ memW b 0) (h : quX a b = some c) (hx : memW a x) (hy : memW b y) : memW c (x / y) := by
  obtain ⟨_, k⟩ := (corn_ends (f := quoN) (a := a) (b := b) (g := fun i j => valW i / valW j) (br_quoW ia ib h0)).1 c h
  have k1 := k a.1 b.1 (.inl rfl) (.inl rfl)
  have k2 := k a.1 b.2 (.inl rfl) (.inr rfl)
  have k3 := k a.2 b.1 (.inr rfl) (.inl rfl)
  have k4 := k a.2 b.2 (.inr rfl) (.inr rfl)
  have hi := inv_between hy (out_sides ib h0)
  have d : ∀ u v : Rat, u / v = u * (1 / v) := fun u v => by grind
  rw [d (valW a.1) (valW b.1)] at k1
  rw [d (valW a.1) (valW b.2)] at k2
  rw [d (valW a.2) (valW b.1)] at k3
  rw [d (valW a.2) (valW b.2)] at k4
  rw [d x y]
  exact ⟨corner_low hx hi k2.1 k1.1 k4.1 k3.1, corner_high hx hi k2.2 k1.2 k4.2 k3.2⟩

theorem holding : Holding memO muX suX quX pvX where
  mu := fun a b c x y h hx hy => ⟨mu_iv h, mu_mem h hx.2 hy.2⟩
  su := fun a b c x y h hx hy => ⟨su_iv hx.1 hy.1 h, su_mem hx.1 hy.1 h hx.2 hy.2⟩
  qo := fun a b c x y h0 h hx hy => by
    have h0' : ¬ memW b 0 := fun hc => h0 ⟨hy.1, hc⟩
    exact ⟨((corn_ends (f := quoN) (a := a) (b := b) (g := fun i j => valW i / valW j) (br_quoW hx.1 hy.1 h0')).1 c h).1, qu_mem hx.1 hy.1 h0' h hx.2 hy.2⟩
  pv := fun M n k a h => by
    rcases pvI_some _ _ _ _ h with h | ⟨h1, h2, h3⟩
    · cases h
    · refine ⟨h1, by omega, fun hc => h3 ?_⟩
      unfold lsW
      rw [if_pos ((holds_val _).2 hc.2)]

/-- A word that is not below 0 and no NaN. -/
structure NN (d : Nat) : Prop where
  le : d ≤ 9218868437227405312
theorem NN.kw {d : Nat} (h : NN d) : kw d = d := by
  have := h.le
  unfold Go.Proofs.YtonhpkigoplmaaaGreatDoor.kw sg
  rw [decide_eq_false (by omega), if_neg Bool.false_ne_true]; omega
theorem NN.fmin {x y : Nat} (hx : NN x) (hy : NN y) : Go.Proofs.YtonhpkigoplmaaaGreatDoor.fmin x y = min x y ∧ NN (Go.Proofs.YtonhpkigoplmaaaGreatDoor.fmin x y) := by
  have e : Go.Proofs.YtonhpkigoplmaaaGreatDoor.fmin x y = min x y := by
    unfold Go.Proofs.YtonhpkigoplmaaaGreatDoor.fmin
    rw [hx.kw, hy.kw]
    split <;> omega
  refine ⟨e, ?_⟩
  rw [e]
  have := hx.le
  have := hy.le
  exact ⟨by omega⟩
theorem NN.fmax {x y : Nat} (hx : NN x) (hy : NN y) : Go.Proofs.YtonhpkigoplmaaaGreatDoor.fmax x y = max x y ∧ NN (Go.Proofs.YtonhpkigoplmaaaGreatDoor.fmax x y) := by
  have e : Go.Proofs.YtonhpkigoplmaaaGreatDoor.fmax x y = max x y := by
    unfold Go.Proofs.YtonhpkigoplmaaaGreatDoor.fmax
    rw [hx.kw, hy.kw]
    split <;> omega
  refine ⟨e, ?_⟩
  rw [e]
  have := hx.le
  have := hy.le
  exact ⟨by omega⟩
theorem NN.fr {d : Nat} (h : NN d) : FR d (posF d) := ⟨by have := h.le; omega, by have := h.le; omega, by have := h.le; omega, rfl⟩

/-- A plain amount's word. -/
def PlA (d : Nat) : Prop := d = 0 ∨ 553942754166571008 ≤ d ∧ d ≤ 8660422083433463808
theorem PlA.nn {d : Nat} (h : PlA d) : NN d := ⟨by unfold PlA at h; omega⟩

theorem abs_plain {l : Nat} (hl : l < 18446744073709551616) (h : plainN l = some (plT l)) : PlA (absW l) ∧ valW (absW l) = ab (valW l) := by
  unfold absW PlA
  have hp : (plainN l).isSome = true := by rw [h]; rfl
  by_cases h0 : l % 9223372036854775808 = 0
  · refine ⟨.inl h0, ?_⟩
    rw [h0]
    have : l = 0 ∨ l = 9223372036854775808 := by omega
    have z : valW 0 = 0 := val_zero rfl
    have z2 : valW 9223372036854775808 = 0 := val_zero rfl
    rcases this with rfl | rfl
    · rw [z, ab_zero]
    · rw [z, z2, ab_zero]
  · have hb : 553942754166571008 ≤ l % 9223372036854775808 ∧ l % 9223372036854775808 ≤ 8660422083433463808 := by
      unfold plainN at hp
      split at hp
      · omega
      · split at hp
        · cases hp
        · omega
    refine ⟨.inr hb, ?_⟩
    have e1 : plT (l % 9223372036854775808) = (false, l % 9223372036854775808 % 4503599627370496 + 4503599627370496, ((l % 9223372036854775808 / 4503599627370496 : Nat) : Int) - 1075) := by
      have := plT_wd false hb.1 hb.2
      rw [show wd false (l % 9223372036854775808) = l % 9223372036854775808 by unfold wd; simp] at this
      unfold plT
      rw [this]; rfl
    have e2 : plT l = (decide (9223372036854775808 ≤ l), l % 9223372036854775808 % 4503599627370496 + 4503599627370496, ((l % 9223372036854775808 / 4503599627370496 : Nat) : Int) - 1075) := by
      have := plT_wd (decide (9223372036854775808 ≤ l)) hb.1 hb.2
      rw [wd_self hl] at this
      unfold plT
      rw [this]; rfl
    unfold valW
    rw [e1, e2]
    unfold valQ sg
    simp only
    have hp2 := Rat.mul_pos (show (0 : Rat) < ((l % 9223372036854775808 % 4503599627370496 + 4503599627370496 : Nat) : Rat) from Rat.natCast_pos.2 (by omega)) (pw_pos (((l % 9223372036854775808 / 4503599627370496 : Nat) : Int) - 1075))
    by_cases hd : 9223372036854775808 ≤ l
    · rw [decide_eq_true hd]
      simp only [Bool.false_eq_true, if_false, if_true]
      rw [Rat.intCast_neg, Rat.intCast_natCast]
      rcases ab_cases (-((l % 9223372036854775808 % 4503599627370496 + 4503599627370496 : Nat) : Rat) * pw (((l % 9223372036854775808 / 4503599627370496 : Nat) : Int) - 1075)) with ⟨_, e⟩ | ⟨_, e⟩ <;> grind
    · rw [decide_eq_false hd]
      simp only [Bool.false_eq_true, if_false]
      rw [Rat.intCast_natCast]
      rcases ab_cases (((l % 9223372036854775808 % 4503599627370496 + 4503599627370496 : Nat) : Rat) * pw (((l % 9223372036854775808 / 4503599627370496 : Nat) : Int) - 1075)) with ⟨_, e⟩ | ⟨_, e⟩ <;> grind
end Go.Proofs.YtonhpkigoplmaaaGreatDoor
namespace Go.Proofs.YtonhpkigoplmaaaGreatDoor
open Go.RowKit Go.Extern Ieee

/-- A box of a number, and what else lies there. -/
structure FSt (w W : World) (g : Nat) (a : Array Value) : Prop where
  k0 : W.heap[g]? = some (.cells a 92 (0, 0))
  hg : w.heap.size ≤ g
  hb : Below w.heap.size w W
theorem FSt.below {w W W' : World} {g : Nat} {a : Array Value} (m : FSt w W g a) (hb : Below W.heap.size W W') : FSt w W' g a := ⟨blk_below m.k0 hb, m.hg, m.hb.trans (hb.mono m.hb.size)⟩
theorem FSt.drew {w W : World} {g : Nat} {a : Array Value} (m : FSt w W g a) : FSt w W.drew g a := ⟨m.k0, m.hg, m.hb.drew⟩
theorem FSt.cells {w W : World} {g : Nat} {x y z : Value} (m : FSt w W g #[x, y, z]) : W.cell? ⟨g, 0, none⟩ = some x ∧ W.cell? ⟨g, 1, none⟩ = some y ∧ W.cell? ⟨g, 2, none⟩ = some z := by
  obtain ⟨a, b, c, -, -, -⟩ := blk3 m.k0
  exact ⟨a, b, c⟩
theorem FSt.set {w W : World} {g : Nat} {x y z x' y' z' : Value} (m : FSt w W g #[x', y', z']) : FSt w (((W.setCell ⟨g, 0, none⟩ x).setCell ⟨g, 1, none⟩ y).setCell ⟨g, 2, none⟩ z) g #[x, y, z] :=
  ⟨blk_store3 m.k0, m.hg, ((m.hb.setCell (by exact m.hg) _).setCell (by exact m.hg) _).setCell (by exact m.hg) _⟩

theorem less_g {x y : Bool × Nat × Int} (sx : Sm x) (sy : Sm y) (W : World) (po qo : Option Addr) (lp cp lq cq : Nat) (h0 : lp = (digits x.2.1).length) (n0 : NatV W (.slice po lp cp) x.2.1) (h1 : lq = (digits y.2.1).length) (n1 : NatV W (.slice qo lq cq) y.2.1) :
    Calls Tryz.prog 58 #[.agg #[.bool x.1, .slice po lp cp, .int .i64 x.2.2], .agg #[.bool y.1, .slice qo lq cq, .int .i64 y.2.2]] W fun ev w'' => ev = .returned (.bool (lessT x y)) ∧ Below W.heap.size W w'' := by
  have a := sx.len; have b := sy.len; have c := sx.l; have d := sx.u; have e := sy.l; have f := sy.u
  exact less_any _ _ x.1 y.1 x.2.1 y.2.1 x.2.2 y.2.2 W ⟨po, lp, cp, rfl, h0, n0⟩ ⟨qo, lq, cq, rfl, h1, n1⟩ (by omega) (by omega) (by omega) (by omega) (by omega) (by omega)
theorem one_g (W : World) : Calls Tryz.prog 114 #[.int .i64 1] W fun e w' => ∃ o l c, e = .returned (.slice o l c) ∧ l = (digits 1).length ∧ NatV w' (.slice o l c) 1 ∧ Below W.heap.size W w' := by
  refine (nat_any 1 W (by decide)).mono ?_
  rintro e w' ⟨v, rfl, hn, hb⟩
  obtain ⟨o, c, rfl⟩ := hn.slice
  exact ⟨o, _, c, rfl, rfl, hn, hb⟩

theorem val_two (k : Int) : valQ (false, 1, k) = pw k := by
  unfold valQ sg
  simp only [Bool.false_eq_true, if_false]
  show ((1 : Int) : Rat) * pw k = pw k
  rw [show ((1 : Int) : Rat) = 1 by rfl, Rat.one_mul]
theorem fair_less {x a : Bool × Nat × Int} (h : valQ a = ab (valQ x)) (n0 : sgnI x.1 x.2.1 ≠ 0) : fairT x = (!lessT a (false, 1, -30) && !lessT (false, 1, 30) a) := by
  have h1 := less_val a (false, 1, -30)
  have h2 := less_val (false, 1, 30) a
  rw [val_two, h] at h1 h2
  have hv : valQ x ≠ 0 := fun hc => by
    have := (sgn_val x).1.2 (by grind)
    have := (sgn_val x).2.2 (by grind)
    omega
  unfold fairT
  rw [decide_eq_false hv, Bool.false_or]
  congr 1
  · rw [Bool.eq_iff_iff, decide_eq_true_eq, Bool.not_eq_true', ← Bool.not_eq_true, h1]
    grind
  · rw [Bool.eq_iff_iff, decide_eq_true_eq, Bool.not_eq_true', ← Bool.not_eq_true, h2]
    grind
theorem fair_zero {x : Bool × Nat × Int} (n0 : sgnI x.1 x.2.1 = 0) : fairT x = true := by
  have : valQ x = 0 := by
    have a := (sgn_val x).1.1 (by omega)
    have b := (sgn_val x).2.1 (by omega)
    grind
  unfold fairT
  rw [decide_eq_true this, Bool.true_or]

set_option maxHeartbeats 4000000 in
set_option maxRecDepth 100000 in
theorem fair_any (x : Bool × Nat × Int) (o : Option Addr) (l c : Nat) (w : World) (sx : Sm x) (hl : l = (digits x.2.1).length) (hn : NatV w (.slice o l c) x.2.1) :
    Calls Tryz.prog 168 #[.agg #[.bool x.1, .slice o l c, .int .i64 x.2.2]] w fun e w' => e = .returned (.bool (fairT x)) ∧ Below w.heap.size w w' := by
  have HS : Hid (∀ W, Below w.heap.size w W → Calls Tryz.prog 69 #[.agg #[.bool x.1, .slice o l c, .int .i64 x.2.2]] W fun ev w' => ev = .returned (.int .i64 (sgnI x.1 x.2.1)) ∧ Below W.heap.size W w') := fun W hW => sign_any _ _ _ _ W ⟨o, l, c, rfl, hl, hn.below hW (Nat.le_refl _)⟩
  have HN : Hid (∀ W, Below w.heap.size w W → Calls Tryz.prog 61 #[.agg #[.bool x.1, .slice o l c, .int .i64 x.2.2]] W fun e w' => ∃ o' l' c', e = .returned (.agg #[.bool (negT x).1, .slice o' l' c', .int .i64 (negT x).2.2]) ∧ l' = (digits x.2.1).length ∧ NatV w' (.slice o' l' c') x.2.1 ∧ Below W.heap.size W w') := fun W hW => negated_g x W o l c hl (hn.below hW (Nat.le_refl _))
  have H1 : Hid (∀ W, Calls Tryz.prog 114 #[.int .i64 1] W fun e w' => ∃ o l c, e = .returned (.slice o l c) ∧ l = (digits 1).length ∧ NatV w' (.slice o l c) 1 ∧ Below W.heap.size W w') := one_g
  have hv : Hid (valQ (if sgnI x.1 x.2.1 < 0 then negT x else x) = ab (valQ x)) := by
    show _ = _
    split
    · rename_i h
      rw [val_neg]
      have := (sgn_val x).2
      rcases ab_cases (valQ x) with ⟨a, b⟩ | ⟨a, b⟩
      · have := this.2 a; omega
      · exact b.symm
    · rename_i h
      have := (sgn_val x).2.1 (by omega)
      rcases ab_cases (valQ x) with ⟨a, b⟩ | ⟨a, b⟩
      · exact b.symm
      · grind
  have SB : Hid (Sm (if sgnI x.1 x.2.1 < 0 then negT x else x)) := by
    show Sm _
    split
    · exact ⟨sx.b, sx.l, sx.u⟩
    · exact sx
  have HF : Hid (∀ a, valQ a = ab (valQ x) → (decide (sgnI x.1 x.2.1 = 0) || (!lessT a (false, 1, -30) && !lessT (false, 1, 30) a)) = fairT x) := by
    intro a h
    by_cases h0 : sgnI x.1 x.2.1 = 0
    · rw [decide_eq_true h0, Bool.true_or, fair_zero h0]
    · rw [decide_eq_false h0, Bool.false_or, fair_less h h0]
  have HX := hid hn
  have HL := hid hl
  clear hn hl sx
  generalize fairT x = RES at *
  go_enter Tryz.func168, Tryz.ntmps168
  go_wp2_with fail
  have m0 : Hid (FSt w (w.alloc (Obj.cells #[.bool x.1, .slice o l c, .int .i64 x.2.2] 92)) w.heap.size #[.bool x.1, .slice o l c, .int .i64 x.2.2]) := ⟨blk_new w _, Nat.le_refl _, (Below.refl _ _).alloc (Nat.le_refl _) _⟩
  generalize (w.alloc (Obj.cells #[.bool x.1, .slice o l c, .int .i64 x.2.2] 92)) = W1 at *
  refine Calls.mono (HS.out _ m0.out.hb) ?_
  rintro e w1 ⟨rfl, hb1⟩
  have m1 := hid (m0.out.below hb1)
  have NX : Hid (NatV w1 (.slice o l c) x.2.1) := HX.out.below m1.out.hb (Nat.le_refl _)
  clear hb1 m0 HS HX
  obtain ⟨x0, x1, x2⟩ := m1.out.cells
  obtain ⟨-, -, -, f0, f1, f2⟩ := blk3 m1.out.k0
  have hlt := lt_of_row m1.out.k0
  have VV := hid hv.out
  have SV := hid SB.out
  clear hv SB
  go_upto_if 9 with fail
  go_cut [3] (fun s3 wc => s3 = .int .i64 (sgnI x.1 x.2.1) ∧ ∃ (a : Bool × Nat × Int) (o' : Option Addr) (l' c' : Nat), FSt w wc w.heap.size #[.bool a.1, .slice o' l' c', .int .i64 a.2.2] ∧ l' = (digits a.2.1).length ∧ NatV wc (.slice o' l' c') a.2.1 ∧ valQ a = ab (valQ x) ∧ Sm a)
  case first =>
    by_cases hs : sgnI x.1 x.2.1 < 0
    · have g1 : decide (sgnI x.1 x.2.1 < 0) = true := decide_eq_true hs
      have V := hid VV.out
      have T := hid SV.out
      rw [if_pos hs] at V T
      clear VV SV
      go_wp2_with fail
      refine Calls.mono (HN.out _ m1.out.hb) ?_
      rintro e w2 ⟨o', l', c', rfl, hl', hn', hb2⟩
      have m2 := hid (m1.out.below hb2)
      have N2 := hid hn'
      have L2 := hid hl'
      clear hb2 m1 hn' hl' x0 x1 x2 f0 f1 f2 hlt HN
      obtain ⟨x0, x1, x2⟩ := m2.out.cells
      obtain ⟨-, -, -, f0, f1, f2⟩ := blk3 m2.out.k0
      have hlt := lt_of_row m2.out.k0
      go_wp2_with fail
      go_meet
      refine ⟨rfl, negT x, o', l', c', m2.out.set, L2.out, ?_, V.out, T.out⟩
      exact N2.out.keeps fun g cur hh => by
        have : g ≠ w.heap.size := fun e => by
          subst e
          rw [m2.out.k0] at hh
          cases hh
        exact blk_store3_ne hh this
    · have g1 : decide (sgnI x.1 x.2.1 < 0) = false := decide_eq_false hs
      have V := hid VV.out
      have T := hid SV.out
      rw [if_neg hs] at V T
      clear VV SV
      go_wp2_with fail
      go_meet
      exact ⟨rfl, x, o, l, c, m1.out, HL.out, NX.out, V.out, T.out⟩
  case rest =>
    obtain ⟨rfl, a, ao, al, ac, hm, hla, hna, hva, hsa⟩ := hcut
    have m2 := hid hm
    have LA := hid hla
    have NA := hid hna
    have FA := hid (HF.out a hva)
    have LS1 : Hid (∀ W bo lb bc, NatV W (.slice ao al ac) a.2.1 → lb = (digits 1).length → NatV W (.slice bo lb bc) 1 → Calls Tryz.prog 58 #[.agg #[.bool a.1, .slice ao al ac, .int .i64 a.2.2], .agg #[.bool false, .slice bo lb bc, .int .i64 (-30)]] W fun ev w'' => ev = .returned (.bool (lessT a (false, 1, -30))) ∧ Below W.heap.size W w'') := fun W bo lb bc h1 h2 h3 => less_g hsa (y := (false, 1, -30)) ⟨by decide, by decide, by decide⟩ W _ _ _ _ _ _ hla h1 h2 h3
    have LS2 : Hid (∀ W bo lb bc, NatV W (.slice ao al ac) a.2.1 → lb = (digits 1).length → NatV W (.slice bo lb bc) 1 → Calls Tryz.prog 58 #[.agg #[.bool false, .slice bo lb bc, .int .i64 30], .agg #[.bool a.1, .slice ao al ac, .int .i64 a.2.2]] W fun ev w'' => ev = .returned (.bool (lessT (false, 1, 30) a)) ∧ Below W.heap.size W w'') := fun W bo lb bc h1 h2 h3 => less_g (x := (false, 1, 30)) ⟨by decide, by decide, by decide⟩ hsa W _ _ _ _ _ _ h2 h3 hla h1
    clear hm hla hna hva hsa m1 NX x0 x1 x2 f0 f1 f2 hlt HN HF VV SV HL
    generalize lessT a (false, 1, -30) = r1 at *
    generalize lessT (false, 1, 30) a = r2 at *
    generalize sgnI x.1 x.2.1 = sg0 at *
    go_wp2_with fail
    go_cut [3, 4] (fun s3 s4 wd => s3 = .int .i64 sg0 ∧ s4 = .bool r1 ∧ FSt w wd w.heap.size #[.bool a.1, .slice ao al ac, .int .i64 a.2.2] ∧ NatV wd (.slice ao al ac) a.2.1)
    case first =>
      have iN := hid m2.out.drew
      have NN : Hid (NatV wc.drew (.slice ao al ac) a.2.1) := NA.out
      obtain ⟨x0, x1, x2⟩ := m2.out.cells
      go_region_held3 (fun W => W.cell? ⟨w.heap.size, 0, none⟩ = some (.bool a.1) ∧ W.cell? ⟨w.heap.size, 1, none⟩ = some (.slice ao al ac) ∧ W.cell? ⟨w.heap.size, 2, none⟩ = some (.int .i64 a.2.2)) (first | with_reducible exact iN.out.cells)
        (first
          | (go_at_call 114; with_reducible (refine Calls.mono (H1.out _) ?_); rintro e v0 ⟨bo, lb, bc, rfl, hlb, hnb, hbk⟩
             have NB := hid hnb
             have LB := hid hlb
             have NN := hid (NN.out.below hbk (Nat.le_refl _))
             have iN := hid (iN.out.below hbk)
             clear hbk hnb hlb)
          | (go_at_call 58; with_reducible (refine Calls.mono (LS1.out _ _ _ _ ?_ ?_ ?_) ?_); (with_reducible exact NN.out); (with_reducible exact LB.out); (with_reducible exact NB.out); rintro e v1 ⟨rfl, hbk⟩
             have NN := hid (NN.out.below hbk (Nat.le_refl _))
             have iN := hid (iN.out.below hbk)
             clear hbk))
      all_goals (go_wp2_with fail; go_meet; exact ⟨rfl, rfl, iN.out, NN.out⟩)
    case rest =>
      obtain ⟨rfl, rfl, hm, hna⟩ := hcut
      have m3 := hid hm
      have N3 := hid hna
      clear hm hna m2 NA LS1
      go_wp2_with fail
      go_cut [3, 4, 5] (fun s3 s4 s5 we => s3 = .int .i64 sg0 ∧ s4 = .bool r1 ∧ s5 = .bool r2 ∧ Below w.heap.size w we)
      case first =>
        have iN := hid m3.out.drew
        have NN : Hid (NatV wc.drew (.slice ao al ac) a.2.1) := N3.out
        obtain ⟨x0, x1, x2⟩ := m3.out.cells
        go_region_held3 (fun W => W.cell? ⟨w.heap.size, 0, none⟩ = some (.bool a.1) ∧ W.cell? ⟨w.heap.size, 1, none⟩ = some (.slice ao al ac) ∧ W.cell? ⟨w.heap.size, 2, none⟩ = some (.int .i64 a.2.2)) (first | with_reducible exact iN.out.cells)
          (first
            | (go_at_call 114; with_reducible (refine Calls.mono (H1.out _) ?_); rintro e v0 ⟨bo, lb, bc, rfl, hlb, hnb, hbk⟩
               have NB := hid hnb
               have LB := hid hlb
               have NN := hid (NN.out.below hbk (Nat.le_refl _))
               have iN := hid (iN.out.below hbk)
               clear hbk hnb hlb)
            | (go_at_call 58; with_reducible (refine Calls.mono (LS2.out _ _ _ _ ?_ ?_ ?_) ?_); (with_reducible exact NN.out); (with_reducible exact LB.out); (with_reducible exact NB.out); rintro e v1 ⟨rfl, hbk⟩
               have NN := hid (NN.out.below hbk (Nat.le_refl _))
               have iN := hid (iN.out.below hbk)
               clear hbk))
        all_goals (go_wp2_with fail; go_meet; exact ⟨rfl, rfl, rfl, iN.out.hb⟩)
      case rest =>
        obtain ⟨rfl, rfl, rfl, hbe⟩ := hcut
        have HBE := hid hbe
        clear hbe m3 N3 LS2 H1
        by_cases h0 : sg0 = 0
        · subst h0
          have E : Hid (true = RES) := by
            show _ = _
            rw [← FA.out]; rfl
          clear FA
          go_wp2
          go_ret
          rw [← E.out]; exact ⟨rfl, HBE.out⟩
        · have g1 : (sg0 == 0) = false := by rw [beq_eq_false_iff_ne]; exact h0
          have E : Hid ((!r1 && !r2) = RES) := by
            show _ = _
            rw [← FA.out, decide_eq_false h0, Bool.false_or]
          clear FA h0
          cases r1 <;> cases r2 <;> (go_wp2; go_ret; rw [← E.out]; exact ⟨rfl, HBE.out⟩)
end Go.Proofs.YtonhpkigoplmaaaGreatDoor
namespace Go.Proofs.YtonhpkigoplmaaaGreatDoor
open Go.RowKit

/-- The cells of n boxes. -/
def bxs (xs : Nat → Nat × Nat) (n : Nat) : List Value := bvs ((List.range n).map xs)
theorem bxs_push (xs : Nat → Nat × Nat) (n : Nat) : bxs xs (n + 1) = bxs xs n ++ [.int .u64 ((xs n).1 : Int), .int .u64 ((xs n).2 : Int)] := by
  unfold bxs
  rw [List.range_succ, List.map_append, bvs_append]
  rfl
theorem BxV.congr {W : World} {ao : Option Addr} {n : Nat} {xs ys : Nat → Nat × Nat} (h : BxV W ao n xs) (e : ∀ i, i < n → xs i = ys i) : BxV W ao n ys := by
  rcases h with h | ⟨g, off, e1, hg, h⟩
  · exact .inl h
  · exact .inr ⟨g, off, e1, hg, fun i hi => by rw [← e i hi]; exact h i hi⟩
theorem BxV.of_bxs {w : World} {v : Value} {B T n : Nat} {xs : Nat → Nat × Nat} (h : w.ownsRow B T 2 v n (bxs xs n)) : ∃ ao c, v = .slice ao n c ∧ n ≤ c ∧ BxV w ao n xs := by
  have hl : ((List.range n).map xs).length = n := by simp
  have h2 : w.ownsRow B T 2 v ((List.range n).map xs).length (bvs ((List.range n).map xs)) := by rw [hl]; exact h
  obtain ⟨ao, c, e, hc, hb⟩ := BxV.of_owns _ h2
  rw [hl] at e hc hb
  refine ⟨ao, c, e, hc, hb.congr fun i hi => ?_⟩
  rw [List.getD_eq_getElem?_getD, List.getElem?_map, List.getElem?_range hi]
  rfl

/-- append upon a list of one's own. -/
theorem own_push {b s k : Nat} {T : TypeId} {w wr w1 : World} {v : Value} {xs : List Value} {o : Obj} (hown : wr.ownsRow b T s v k xs) (hb : Below b w wr) (hB : b ≤ w.heap.size) (hgrow : (wr.alloc o).grownBy w1 v.ownBlock) : Below b w w1 := by
  have hs := hb.size
  exact (hb.alloc (by omega) o).grown hgrow (by simp; omega) (fun k hk => (hown.lt k hk).1)
theorem two_cells {W : World} {a b : Value} {t : TypeId} : ∀ j u, ([a, b] : List Value)[j]? = some u → (W.alloc (Obj.cells #[a, b] t)).cell? ((Addr.mk W.heap.size 0 none).add j) = some u := by
  intro j u hj
  have hk := blk_new W (Obj.cells #[a, b] t)
  obtain ⟨c1, c2, -, -⟩ := blk2 hk
  match j, hj with
  | 0, hj => simp at hj; subst hj; exact c1
  | 1, hj => simp at hj; subst hj; exact c2
theorem one_cell {W : World} {a : Value} {t : TypeId} : ∀ j u, ([a] : List Value)[j]? = some u → (W.alloc (Obj.cells #[a] t)).cell? ((Addr.mk W.heap.size 0 none).add j) = some u := by
  intro j u hj
  have hk := blk_new W (Obj.cells #[a] t)
  match j, hj with
  | 0, hj =>
    simp at hj
    subst hj
    have e : (Addr.mk W.heap.size 0 none).add 0 = ⟨W.heap.size, 0, none⟩ := by simp [Addr.add]
    rw [e, cell_of_cur hk]
    rfl
theorem infoPB : (Tryz.prog.info? 33).map (fun i => (i.zero, i.size, i.bytes)) = some (some (.agg #[.int .u64 0, .int .u64 0]), 2, 16) := by kernel_rfl
end Go.Proofs.YtonhpkigoplmaaaGreatDoor
namespace Go.Proofs.YtonhpkigoplmaaaGreatDoor
open Go.RowKit Go.Extern Ieee

/-- An entry, where the column col is B's. -/
def entQ (Q : Nat → Nat → Bool × Nat × Int) (B : Nat → Bool × Nat × Int) (col : Int) (i k : Nat) : Bool × Nat × Int := if (k : Int) = col then B i else Q i k
/-- The square that is left of it, without the row 0 and the column j. -/
def minQ (E : Nat → Nat → Bool × Nat × Int) (j i k : Nat) : Bool × Nat × Int := E (i + 1) (if k < j then k else k + 1)
def MM : Nat → Nat
  | 0 => 1
  | n + 1 => MM n + 953 + (n + 1)
/-- What det answers. -/
structure DetP (n : Nat) (E : Nat → Nat → Bool × Nat × Int) (q : Bool × Nat × Int) : Prop where
  val : valQ q = detR n (fun i k => valQ (E i k))
  bq : Bq (953 * n) (MM n) q
/-- The first j terms. -/
structure DetT (n : Nat) (E : Nat → Nat → Bool × Nat × Int) (j : Nat) (q : Bool × Nat × Int) : Prop where
  val : valQ q = sumR j (fun k => (if k % 2 = 1 then -1 else 1) * (valQ (E 0 k) * detR n (fun i x => valQ (E (i + 1) (if x < k then x else x + 1)))))
  bq : Bq (953 * (n + 1)) (MM n + 953 + j) q
theorem DetT.zero (n : Nat) (E : Nat → Nat → Bool × Nat × Int) : DetT n E 0 (false, 0, 0) := ⟨val_zero rfl, Bq.zero _ _⟩
theorem MM_le {n : Nat} (h : n ≤ 4) : MM n ≤ 3823 := by
  have : n = 0 ∨ n = 1 ∨ n = 2 ∨ n = 3 ∨ n = 4 := by omega
  rcases this with rfl | rfl | rfl | rfl | rfl <;> decide
theorem DetT.done {n : Nat} {E : Nat → Nat → Bool × Nat × Int} {q : Bool × Nat × Int} (h : DetT n E (n + 1) q) : DetP (n + 1) E q := ⟨h.val, h.bq⟩
/-- One term more. -/
theorem DetT.step {n : Nat} {E : Nat → Nat → Bool × Nat × Int} {j : Nat} {t d p : Bool × Nat × Int} (ht : DetT n E j t) (hd : DetP n (minQ E j) d) (hb : Bq 953 953 (E 0 j)) (hp : p = if j % 2 = 1 then negT (prodN (E 0 j) d) else prodN (E 0 j) d) : DetT n E (j + 1) (sumT t p) := by
  have b1 : Bq (953 * (n + 1)) (MM n + 953) p := by
    have h := (hb.prod hd.bq).mono (E' := 953 * (n + 1)) (M' := MM n + 953) (by omega) (by omega)
    rw [hp]
    split
    · exact h.neg
    · exact h
  refine ⟨?_, (ht.bq.sum (b1.mono (Nat.le_refl _) (by omega))).mono (Nat.le_refl _) (by omega)⟩
  rw [val_sum, ht.val]
  show _ = sumR j _ + (if j % 2 = 1 then -1 else 1) * (valQ (E 0 j) * detR n (fun i x => valQ (E (i + 1) (if x < j then x else x + 1))))
  congr 1
  have e : detR n (fun i x => valQ (E (i + 1) (if x < j then x else x + 1))) = valQ d := hd.val.symm
  rw [e, hp]
  split
  · rw [val_neg, val_prod]; grind
  · rw [val_prod]; grind

theorem infoNum : (Tryz.prog.info? 92).map (fun i => (i.zero, i.size, i.bytes)) = some (some (.agg #[.bool false, .slice none 0 0, .int .i64 0]), 3, 40) := by kernel_rfl
theorem infoNumS : (Tryz.prog.info? 103).map (fun i => (i.zero, i.size, i.bytes)) = some (some (.slice none 0 0), 1, 24) := by kernel_rfl

theorem three_cells {W : World} {a b c : Value} {t : TypeId} : ∀ j u, ([a, b, c] : List Value)[j]? = some u → (W.alloc (Obj.cells #[a, b, c] t)).cell? ((Addr.mk W.heap.size 0 none).add j) = some u := by
  intro j u hj
  have hk := blk_new W (Obj.cells #[a, b, c] t)
  obtain ⟨c1, c2, c3, -, -, -⟩ := blk3 hk
  match j, hj with
  | 0, hj => simp at hj; subst hj; exact c1
  | 1, hj => simp at hj; subst hj; exact c2
  | 2, hj => simp at hj; subst hj; exact c3
/-- One number more in a row. -/
theorem NBl.push {b : Nat} {W W0 W1 : World} {v v' : Value} {n : Nat} {q : Nat → Bool × Nat × Int} {u : Nat → Value} {o : Option Addr} {l c : Nat} (h : NBl b W v n q u) (hl : l = (digits (q n).2.1).length) (hn : NatV W (.slice o l c) (q n).2.1) (ho : W1.ownsRow b 92 3 v' (n + 1) (nvs q u n ++ [.bool (q n).1, .slice o l c, .int .i64 (q n).2.2])) (hg : W0.grownBy W1 v.ownBlock) (h0 : Below W.heap.size W W0) : NBl b W1 v' (n + 1) q (fun i => if i = n then .slice o l c else u i) := by
  have hk : ∀ m y, NatV W y m → NatV W1 y m := by
    intro m y hy
    have hy0 := hy.below h0 (Nat.le_refl _)
    refine hy0.keeps fun g cur hh => ?_
    rw [hg.block g (lt_of_row hh) ?_]
    · exact hh
    · intro hu
      obtain ⟨-, ⟨rfl, -⟩ | ⟨g', c, cur', rfl, -, k1, -⟩⟩ := h.own
      · simp [Value.ownBlock] at hu
      · simp [Value.ownBlock] at hu
        subst hu
        rw [blk_below k1 h0] at hh
        cases hh
  refine ⟨?_, fun j hj => ?_⟩
  · rw [nvs_push, if_pos rfl, nvs_congr (q := q) (q' := q) (u := fun i => if i = n then .slice o l c else u i) (u' := u) (fun _ _ => rfl) (fun j hj => by rw [if_neg (by omega)])]
    exact ho
  · by_cases hjn : j = n
    · subst hjn
      rw [if_pos rfl]
      exact ⟨o, l, c, rfl, hl, hk _ _ hn⟩
    · rw [if_neg hjn]
      obtain ⟨o', l', c', e1, e2, e3⟩ := h.nat j (by omega)
      exact ⟨o', l', c', e1, e2, hk _ _ e3⟩
theorem natV_store {W : World} {g : Nat} {a b c : Value} {cur : Array Value} {v : Value} {n : Nat} (h : NatV W v n) (hg : W.heap[g]? = some (.cells cur 92 (0, 0))) : NatV (((W.setCell ⟨g, 0, none⟩ a).setCell ⟨g, 1, none⟩ b).setCell ⟨g, 2, none⟩ c) v n :=
  h.keeps fun g' cur' hh => by
    have : g' ≠ g := fun e => by
      subst e
      rw [hg] at hh
      cases hh
    exact blk_store3_ne hh this

end Go.Proofs.YtonhpkigoplmaaaGreatDoor
