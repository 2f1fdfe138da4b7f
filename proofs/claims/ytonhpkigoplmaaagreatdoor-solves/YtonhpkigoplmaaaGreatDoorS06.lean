/-
  SolN, SolD, SolE, SolF, SolG.
-/
import Derived.Test.YtonhpkigoplmaaaGreatDoorS05
namespace Go.Proofs.YtonhpkigoplmaaaGreatDoor

/-- An amount of at most B. -/
def bd (B z : Rat) : Prop := -B ≤ z ∧ z ≤ B

theorem bd_nonneg {B z : Rat} (h : bd B z) : 0 ≤ B := by unfold bd at h; grind
theorem bd_le {A B z : Rat} (h : bd A z) (hl : A ≤ B) : bd B z := by unfold bd at *; constructor <;> grind
theorem bd_neg {A z : Rat} (h : bd A z) : bd A (-z) := by unfold bd at *; constructor <;> grind
theorem bd_add {A B x y : Rat} (hx : bd A x) (hy : bd B y) : bd (A + B) (x + y) := by unfold bd at *; constructor <;> grind
theorem bd_sub {A B x y : Rat} (hx : bd A x) (hy : bd B y) : bd (A + B) (x - y) := by unfold bd at *; constructor <;> grind
theorem bd_mul {A B x y : Rat} (hx : bd A x) (hy : bd B y) : bd (A * B) (x * y) := by
  obtain ⟨h1, h2⟩ := hx
  obtain ⟨h3, h4⟩ := hy
  have p1 := Rat.mul_nonneg (a := A - x) (b := B + y) (by grind) (by grind)
  have p2 := Rat.mul_nonneg (a := A + x) (b := B - y) (by grind) (by grind)
  have p3 := Rat.mul_nonneg (a := A - x) (b := B - y) (by grind) (by grind)
  have p4 := Rat.mul_nonneg (a := A + x) (b := B + y) (by grind) (by grind)
  constructor <;> grind

/-- A quotient's bound. -/
theorem bd_over {c h w y : Rat} (hh : 0 < h) (hy : h ≤ y ∨ y ≤ -h) (hb : bd (c * h) (w * y)) : bd c w := by
  have hc : 0 ≤ c := by
    have := bd_nonneg hb
    apply Decidable.byContradiction
    intro hn
    have := Rat.mul_pos (a := -c) (b := h) (by grind) hh
    grind
  obtain ⟨h1, h2⟩ := hb
  constructor
  · apply Decidable.byContradiction
    intro hn
    rcases hy with hy | hy
    · have p1 := Rat.mul_nonneg (a := -c - w) (b := y - h) (by grind) (by grind)
      have p2 := Rat.mul_pos (a := -c - w) (b := h) (by grind) hh
      have p3 := Rat.mul_nonneg (a := c) (b := y - h) hc (by grind)
      grind
    · have p1 := Rat.mul_nonneg (a := -c - w) (b := -y - h) (by grind) (by grind)
      have p2 := Rat.mul_pos (a := -c - w) (b := h) (by grind) hh
      have p3 := Rat.mul_nonneg (a := c) (b := -y - h) hc (by grind)
      grind
  · apply Decidable.byContradiction
    intro hn
    rcases hy with hy | hy
    · have p1 := Rat.mul_nonneg (a := w - c) (b := y - h) (by grind) (by grind)
      have p2 := Rat.mul_pos (a := w - c) (b := h) (by grind) hh
      have p3 := Rat.mul_nonneg (a := c) (b := y - h) hc (by grind)
      grind
    · have p1 := Rat.mul_nonneg (a := w - c) (b := -y - h) (by grind) (by grind)
      have p2 := Rat.mul_pos (a := w - c) (b := h) (by grind) hh
      have p3 := Rat.mul_nonneg (a := c) (b := -y - h) hc (by grind)
      grind

/-- An amount. -/
def ab (x : Rat) : Rat := if 0 ≤ x then x else -x
theorem ab_cases (x : Rat) : (0 ≤ x ∧ ab x = x) ∨ (x < 0 ∧ ab x = -x) := by
  unfold ab; split
  · left; grind
  · right; grind
theorem ab_nonneg (x : Rat) : 0 ≤ ab x := by have := ab_cases x; grind
theorem bd_ab (x : Rat) : bd (ab x) x := by have := ab_cases x; unfold bd; grind
theorem ab_le {B x : Rat} (h : bd B x) : ab x ≤ B := by have := ab_cases x; unfold bd at h; grind
theorem bd_of_ab {B x : Rat} (h : ab x ≤ B) : bd B x := bd_le (bd_ab x) h
theorem ab_mul (x y : Rat) : ab (x * y) = ab x * ab y := by
  rcases ab_cases x with ⟨h1, e1⟩ | ⟨h1, e1⟩ <;> rcases ab_cases y with ⟨h2, e2⟩ | ⟨h2, e2⟩ <;> rw [e1, e2]
  · have := Rat.mul_nonneg h1 h2
    have := ab_cases (x * y); grind
  · have := Rat.mul_nonneg h1 (show 0 ≤ -y by grind)
    have := ab_cases (x * y); grind
  · have := Rat.mul_nonneg (show 0 ≤ -x by grind) h2
    have := ab_cases (x * y); grind
  · have := Rat.mul_nonneg (show 0 ≤ -x by grind) (show 0 ≤ -y by grind)
    have := ab_cases (x * y); grind
theorem ab_sub (x y : Rat) : ab (x - y) ≤ ab x + ab y := ab_le (bd_sub (bd_ab x) (bd_ab y))
theorem ab_sub_ge (x y : Rat) : ab x - ab y ≤ ab (x - y) := by
  have := ab_cases x
  have := ab_cases y
  have := ab_cases (x - y)
  grind
theorem ab_pos {x : Rat} (h : x ≠ 0) : 0 < ab x := by have := ab_cases x; grind
theorem ab_zero : ab 0 = 0 := by have := ab_cases 0; grind

/-- What is lost by rounding: eps of the amount, and eta where it is not 0. -/
def eps : Rat := 1 / 4503599627370496
structure Rnd (eta e z : Rat) : Prop where
  near : ∀ B, bd B z → bd (eps * B + eta) (e - z)
  zero : z = 0 → e = 0

theorem Rnd.at {eta e z S : Rat} (h : Rnd eta e z) (hz : bd (2 * S) z) (hS : S = 0 ∨ eta ≤ eps * S) : bd (3 * eps * S) (e - z) := by
  rcases hS with hS | hS
  · have : z = 0 := by subst hS; unfold bd at hz; grind
    rw [h.zero this, this, hS]
    unfold bd; constructor <;> grind
  · exact bd_le (h.near _ hz) (by grind)

section
variable {α : Type} (lo hi : α → Rat)

def Nr (a : α) (A d : Rat) : Prop := bd d (lo a - A) ∧ bd d (hi a - A)
def isEnd (a : α) (x : Rat) : Prop := x = lo a ∨ x = hi a
def memR (a : α) (x : Rat) : Prop := lo a ≤ x ∧ x ≤ hi a

variable {lo hi}
theorem Nr.at {a : α} {A d x : Rat} (h : Nr lo hi a A d) (hx : isEnd lo hi a x) : bd d (x - A) := by
  rcases hx with rfl | rfl
  · exact h.1
  · exact h.2
theorem Nr.of {a : α} {A d : Rat} (h : ∀ x, isEnd lo hi a x → bd d (x - A)) : Nr lo hi a A d := ⟨h _ (Or.inl rfl), h _ (Or.inr rfl)⟩
theorem Nr.le {a : α} {A d e : Rat} (h : Nr lo hi a A d) (hl : d ≤ e) : Nr lo hi a A e := ⟨bd_le h.1 hl, bd_le h.2 hl⟩
theorem Nr.end {a : α} {A d x P : Rat} (h : Nr lo hi a A d) (hx : isEnd lo hi a x) (hA : bd P A) : bd (P + d) x := by
  have := bd_add hA (h.at hx)
  rwa [show A + (x - A) = x by grind] at this

/-- Where the pivot is known. -/
structure PivAt (M : Nat → Nat → α) (n k : Nat) : Prop where
  here : ∃ L, 0 < L ∧ ((∀ x, isEnd lo hi (M k k) x → L ≤ x) ∨ (∀ x, isEnd lo hi (M k k) x → x ≤ -L)) ∧ ∀ j x, k ≤ j → j < n → isEnd lo hi (M k j) x → bd (2 * L) x
  there : ∀ i, k < i → i < n → ∃ L, 0 < L ∧ (∀ x, isEnd lo hi (M i k) x → bd L x) ∧ ((∀ x, isEnd lo hi (M i i) x → 2 * L ≤ x) ∨ (∀ x, isEnd lo hi (M i i) x → x ≤ -(2 * L)))

/-- What is known of the operations' ends. -/
structure Near (lo hi : α → Rat) (eta Big : Rat) (mu su qo : α → α → Option α) (pv : (Nat → Nat → α) → Nat → Nat → Option Nat) (ok : α → Prop) : Prop where
  mu : ∀ a b B, ok a → ok b → (∀ x y, isEnd lo hi a x → isEnd lo hi b y → bd B (x * y)) → B ≤ Big → ∃ c, mu a b = some c ∧ ok c ∧ ∀ e, isEnd lo hi c e → ∃ x y, isEnd lo hi a x ∧ isEnd lo hi b y ∧ Rnd eta e (x * y)
  su : ∀ a b B, ok a → ok b → (∀ x y, isEnd lo hi a x → isEnd lo hi b y → bd B (x - y)) → B ≤ Big → ∃ c, su a b = some c ∧ ok c ∧ ∀ e, isEnd lo hi c e → ∃ x y, isEnd lo hi a x ∧ isEnd lo hi b y ∧ Rnd eta e (x - y)
  qo : ∀ a b B, ok a → ok b → ¬ memR lo hi b 0 → (∀ x y, isEnd lo hi a x → isEnd lo hi b y → bd B (x / y)) → B ≤ Big → ∃ c, qo a b = some c ∧ ok c ∧ ∀ e, isEnd lo hi c e → ∃ x y, isEnd lo hi a x ∧ isEnd lo hi b y ∧ Rnd eta e (x / y)
  pv : ∀ M n k, k < n → (∀ i j, k ≤ i → i < n → k ≤ j → j < n → ok (M i j)) → PivAt (lo := lo) (hi := hi) M n k → pv M n k = some k
end

section
variable {α : Type} {lo hi : α → Rat} {eta Big : Rat} {mu su qo : α → α → Option α} {pv : (Nat → Nat → α) → Nat → Nat → Option Nat} {ok : α → Prop}

theorem nr_mul (H : Near lo hi eta Big mu su qo pv ok) {a b : α} {A B P Q d e S : Rat} (oa : ok a) (ob : ok b) (ha : Nr lo hi a A d) (hb : Nr lo hi b B e) (hA : bd P A) (hB : bd Q B) (hS : P * Q + (P * e + Q * d + d * e) ≤ 2 * S) (h0 : S = 0 ∨ eta ≤ eps * S) (hG : 2 * S ≤ Big) :
    ∃ c, mu a b = some c ∧ ok c ∧ Nr lo hi c (A * B) (P * e + Q * d + d * e + 3 * eps * S) := by
  have key : ∀ x y, isEnd lo hi a x → isEnd lo hi b y → bd (P * e + Q * d + d * e) (x * y - A * B) := by
    intro x y hx hy
    have h1 := bd_mul (ha.at hx) (hb.at hy)
    have h2 := bd_mul hA (hb.at hy)
    have h3 := bd_mul hB (ha.at hx)
    have := bd_add (bd_add h2 h3) h1
    rwa [show A * (y - B) + B * (x - A) + (x - A) * (y - B) = x * y - A * B by grind] at this
  have big : ∀ x y, isEnd lo hi a x → isEnd lo hi b y → bd (2 * S) (x * y) := by
    intro x y hx hy
    have := bd_add (bd_mul hA hB) (key x y hx hy)
    rw [show A * B + (x * y - A * B) = x * y by grind] at this
    exact bd_le this hS
  obtain ⟨c, hc, oc, he⟩ := H.mu a b (2 * S) oa ob big hG
  refine ⟨c, hc, oc, Nr.of fun x hx => ?_⟩
  obtain ⟨y, z, hy, hz, hr⟩ := he x hx
  have := bd_add (hr.at (big y z hy hz) h0) (key y z hy hz)
  rw [show x - y * z + (y * z - A * B) = x - A * B by grind] at this
  exact bd_le this (by grind)

theorem nr_sub (H : Near lo hi eta Big mu su qo pv ok) {a b : α} {A B P Q d e S : Rat} (oa : ok a) (ob : ok b) (ha : Nr lo hi a A d) (hb : Nr lo hi b B e) (hA : bd P A) (hB : bd Q B) (hS : P + Q + d + e ≤ 2 * S) (h0 : S = 0 ∨ eta ≤ eps * S) (hG : 2 * S ≤ Big) :
    ∃ c, su a b = some c ∧ ok c ∧ Nr lo hi c (A - B) (d + e + 3 * eps * S) := by
  have key : ∀ x y, isEnd lo hi a x → isEnd lo hi b y → bd (d + e) (x - y - (A - B)) := by
    intro x y hx hy
    have := bd_sub (ha.at hx) (hb.at hy)
    rwa [show x - A - (y - B) = x - y - (A - B) by grind] at this
  have big : ∀ x y, isEnd lo hi a x → isEnd lo hi b y → bd (2 * S) (x - y) := by
    intro x y hx hy
    have := bd_add (bd_sub hA hB) (key x y hx hy)
    rw [show A - B + (x - y - (A - B)) = x - y by grind] at this
    exact bd_le this (by grind)
  obtain ⟨c, hc, oc, he⟩ := H.su a b (2 * S) oa ob big hG
  refine ⟨c, hc, oc, Nr.of fun x hx => ?_⟩
  obtain ⟨y, z, hy, hz, hr⟩ := he x hx
  have := bd_add (hr.at (big y z hy hz) h0) (key y z hy hz)
  rw [show x - (y - z) + (y - z - (A - B)) = x - (A - B) by grind] at this
  exact bd_le this (by grind)

/-- A quotient: g is a bound of what is lost by the ends: d + Q * e ≤ g * (L / 2). -/
theorem nr_quo (H : Near lo hi eta Big mu su qo pv ok) {a b : α} {A B Q d e g L S : Rat} (oa : ok a) (ob : ok b) (ha : Nr lo hi a A d) (hb : Nr lo hi b B e) (hL : 0 < L) (hBL : L ≤ B ∨ B ≤ -L) (he : e ≤ L / 2) (hQ : bd Q (A / B)) (hg : d + Q * e ≤ g * (L / 2)) (hS : Q + g ≤ 2 * S) (h0 : S = 0 ∨ eta ≤ eps * S) (hG : 2 * S ≤ Big) :
    ¬ memR lo hi b 0 ∧ ∃ c, qo a b = some c ∧ ok c ∧ Nr lo hi c (A / B) (g + 3 * eps * S) := by
  have hB0 : B ≠ 0 := by rcases hBL with h | h <;> grind
  have far : ∀ y, isEnd lo hi b y → L / 2 ≤ y ∨ y ≤ -(L / 2) := by
    intro y hy
    have := hb.at hy
    unfold bd at this
    rcases hBL with h | h
    · left; grind
    · right; grind
  have out : ¬ memR lo hi b 0 := by
    rintro ⟨m1, m2⟩
    have f1 := hb.1
    have f2 := hb.2
    unfold bd at f1 f2
    rcases hBL with h | h <;> grind
  have key : ∀ x y, isEnd lo hi a x → isEnd lo hi b y → bd g (x / y - A / B) := by
    intro x y hx hy
    have hy0 : y ≠ 0 := by rcases far y hy with h | h <;> grind
    refine bd_over (h := L / 2) (by grind) (far y hy) ?_
    have := bd_sub (ha.at hx) (bd_mul hQ (hb.at hy))
    rw [show x - A - A / B * (y - B) = (x / y - A / B) * y by grind] at this
    exact bd_le this hg
  have big : ∀ x y, isEnd lo hi a x → isEnd lo hi b y → bd (2 * S) (x / y) := by
    intro x y hx hy
    have := bd_add hQ (key x y hx hy)
    rw [show A / B + (x / y - A / B) = x / y by grind] at this
    exact bd_le this hS
  obtain ⟨c, hc, oc, hx⟩ := H.qo a b (2 * S) oa ob out big hG
  refine ⟨out, c, hc, oc, Nr.of fun x hx' => ?_⟩
  obtain ⟨y, z, hy, hz, hr⟩ := hx x hx'
  have := bd_add (hr.at (big y z hy hz) h0) (key y z hy hz)
  rw [show x - y / z + (y / z - A / B) = x - A / B by grind] at this
  exact bd_le this (by grind)
end
end Go.Proofs.YtonhpkigoplmaaaGreatDoor
namespace Go.Proofs.YtonhpkigoplmaaaGreatDoor

theorem mul_le_l {a x y : Rat} (ha : 0 ≤ a) (h : x ≤ y) : a * x ≤ a * y := Rat.mul_le_mul_of_nonneg_left h ha
theorem mul_le_r {a x y : Rat} (ha : 0 ≤ a) (h : x ≤ y) : x * a ≤ y * a := by
  have := mul_le_l ha h
  grind
theorem mul_le_2 {a b x y : Rat} (ha : 0 ≤ a) (hx : 0 ≤ x) (h1 : a ≤ b) (h2 : x ≤ y) : a * x ≤ b * y := by
  have p1 := mul_le_r hx h1
  have p2 := mul_le_l (a := b) (by grind) h2
  grind

theorem sum_nonneg {f : Nat → Rat} (hf : ∀ j, 0 ≤ f j) : ∀ n, 0 ≤ sumR n f
  | 0 => by show (0 : Rat) ≤ 0; grind
  | n + 1 => by have := sum_nonneg hf n; have := hf n; show 0 ≤ sumR n f + f n; grind
theorem sum_one {f : Nat → Rat} (hf : ∀ j, 0 ≤ f j) {i : Nat} : ∀ n, i < n → f i ≤ sumR n f
  | 0, h => by omega
  | n + 1, h => by
    show f i ≤ sumR n f + f n
    by_cases hi : i = n
    · subst hi; have := sum_nonneg hf i; grind
    · have := sum_one hf n (show i < n by omega); have := hf n; grind
theorem sum_two {f : Nat → Rat} (hf : ∀ j, 0 ≤ f j) {i j : Nat} (hij : i ≠ j) : ∀ n, i < n → j < n → f i + f j ≤ sumR n f
  | 0, h, _ => by omega
  | n + 1, h, h' => by
    show f i + f j ≤ sumR n f + f n
    by_cases hi : i = n
    · subst hi; have := sum_one hf i (show j < i by omega); grind
    · by_cases hj : j = n
      · subst hj; have := sum_one hf j (show i < j by omega); grind
      · have := sum_two hf hij n (show i < n by omega) (show j < n by omega); have := hf n; grind
theorem sum_sub {g h : Nat → Rat} (t : Rat) : ∀ n, sumR n (fun j => ab (g j - t * h j)) ≤ sumR n (fun j => ab (g j)) + ab t * sumR n (fun j => ab (h j))
  | 0 => by show (0 : Rat) ≤ 0 + ab t * 0; grind
  | n + 1 => by
    have := sum_sub (g := g) (h := h) t n
    have h1 := ab_sub (g n) (t * h n)
    rw [ab_mul] at h1
    show sumR n (fun j => ab (g j - t * h j)) + ab (g n - t * h n) ≤ (sumR n (fun j => ab (g j)) + ab (g n)) + ab t * (sumR n (fun j => ab (h j)) + ab (h n))
    grind

def tiny : Rat := 1 / 1606938044258990275541962092341162602522202993782792835301376
def huge : Rat := 1606938044258990275541962092341162602522202993782792835301376

section
variable {α : Type} {mu su qo : α → α → Option α}

theorem takeJ_some {t : α} {br : Nat → α} {P : Nat → α → Prop} : ∀ (f j : Nat) (r : Nat → α), (∀ x, j ≤ x → x < j + f → ∃ c, lpX mu su (r x) t (br x) = some c ∧ P x c) → ∃ r', takeJ mu su t br f j r = some r' ∧ (∀ x, j ≤ x → x < j + f → P x (r' x)) ∧ (∀ x, x < j ∨ j + f ≤ x → r' x = r x)
  | 0, j, r, _ => ⟨r, rfl, fun x a b => by omega, fun x _ => rfl⟩
  | f + 1, j, r, h => by
    obtain ⟨c, hc, hp⟩ := h j (by omega) (by omega)
    obtain ⟨r', h1, h2, h3⟩ := takeJ_some f (j + 1) (upd r j c) (fun x a b => by rw [upd_ne (by omega)]; exact h x (by omega) (by omega))
    refine ⟨r', ?_, fun x a b => ?_, fun x a => ?_⟩
    · show (lpX mu su (r j) t (br j)).bind _ = _
      rw [hc]; exact h1
    · by_cases hx : x = j
      · subst hx; rw [h3 x (by omega), upd_same]; exact hp
      · exact h2 x (by omega) (by omega)
    · rw [h3 x (by omega), upd_ne (by omega)]

theorem takeI_some {n k : Nat} {P : Nat → (Nat → α) → Prop} : ∀ (f i : Nat) (M : Nat → Nat → α), k < i → (∀ y, i ≤ y → y < i + f → ∃ r, takeX mu su qo n k (M y) (M k) = some r ∧ P y r) → ∃ M', takeI mu su qo n k f i M = some M' ∧ (∀ y, i ≤ y → y < i + f → P y (M' y)) ∧ (∀ y, y < i ∨ i + f ≤ y → M' y = M y)
  | 0, i, M, _, _ => ⟨M, rfl, fun x a b => by omega, fun x _ => rfl⟩
  | f + 1, i, M, hk, h => by
    obtain ⟨c, hc, hp⟩ := h i (by omega) (by omega)
    obtain ⟨r', h1, h2, h3⟩ := takeI_some (n := n) (k := k) (P := P) f (i + 1) (upd M i c) (by omega) (fun x a b => by rw [show upd M i c x = M x from upd_ne (by omega), show upd M i c k = M k from upd_ne (by omega)]; exact h x (by omega) (by omega))
    refine ⟨r', ?_, fun x a b => ?_, fun x a => ?_⟩
    · show (takeX mu su qo n k (M i) (M k)).bind _ = _
      rw [hc]; exact h1
    · by_cases hx : x = i
      · subst hx; rw [h3 x (by omega), upd_same]; exact hp
      · exact h2 x (by omega) (by omega)
    · rw [h3 x (by omega), upd_ne (by omega)]
end

theorem eps_pos : 0 < eps := by unfold eps; grind
theorem eps_le : eps ≤ 1 / 1000000000000 := by unfold eps; grind

section
variable {α : Type} {lo hi : α → Rat} {eta Big : Rat} {mu su qo : α → α → Option α} {pv : (Nat → Nat → α) → Nat → Nat → Option Nat} {ok : α → Prop}

theorem S_ok {S : Rat} (he : eta ≤ eps * tiny) (h : tiny ≤ S) : S = 0 ∨ eta ≤ eps * S := by
  right
  have := mul_le_l (Rat.le_of_lt eps_pos) h
  grind

/-- An entry left of the right side. -/
theorem lp_near (H : Near lo hi eta Big mu su qo pv ok) {a b t : α} {A B T Di Dk tau u v : Rat} (oa : ok a) (ob : ok b) (ot : ok t) (ht : Nr lo hi t T (tau * v)) (hT : bd (tau * (1 / 4)) T) (hb : Nr lo hi b B (Dk * u)) (hB : bd (Dk * (1 / 4)) B) (ha : Nr lo hi a A (Di * u)) (hA : bd Di A) (htD : tau * Dk = Di)
    (u0 : 0 ≤ u) (u1 : u ≤ 1 / 100) (hv : v = 5 / 2 * u + 3 * eps) (he : eta ≤ eps * tiny) (hD : tiny ≤ Di) (hG : 2 * Di ≤ Big) :
    ∃ c, lpX mu su a t b = some c ∧ ok c ∧ Nr lo hi c (A - T * B) (Di * (2 * u + 8 * eps)) := by
  have e0 := eps_pos
  have e1 := eps_le
  have d0 : 0 ≤ Di := by unfold tiny at hD; grind
  have v0 : 0 ≤ v := by grind
  have uv : u * v ≤ 1 / 100 * v := mul_le_r v0 u1
  have uv0 := Rat.mul_nonneg u0 v0
  have E1 : tau * (1 / 4) * (Dk * u) + Dk * (1 / 4) * (tau * v) + tau * v * (Dk * u) = Di * (u / 4 + v / 4 + u * v) := by rw [← htD]; grind
  have E2 : tau * (1 / 4) * (Dk * (1 / 4)) = Di * (1 / 16) := by rw [← htD]; grind
  have L1 := mul_le_l (a := Di) d0 (show u / 4 + v / 4 + u * v ≤ 1 by grind)
  obtain ⟨p, hp, op, np⟩ := nr_mul H (S := Di) ot ob ht hb hT hB (by rw [E1, E2]; grind) (S_ok he hD) hG
  rw [E1] at np
  have hTB : bd (Di * (1 / 16)) (T * B) := by have := bd_mul hT hB; rwa [E2] at this
  have L2 := mul_le_l (a := Di) d0 (show u + (u / 4 + v / 4 + u * v) + 3 * eps ≤ 1 / 2 by grind)
  obtain ⟨c, hc, oc, nc⟩ := nr_sub H (S := Di) oa op ha np hA hTB (by grind) (S_ok he hD) hG
  refine ⟨c, by unfold lpX; rw [hp]; exact hc, oc, nc.le ?_⟩
  have L3 := mul_le_l (a := Di) d0 (show u + (u / 4 + v / 4 + u * v) + 6 * eps ≤ 2 * u + 8 * eps by grind)
  grind

/-- The right side. -/
theorem lp_nearR (H : Near lo hi eta Big mu su qo pv ok) {a b t : α} {A B T Di Dk V tau u v : Rat} (oa : ok a) (ob : ok b) (ot : ok t) (ht : Nr lo hi t T (tau * v)) (hT : bd (tau * (1 / 4)) T) (hb : Nr lo hi b B (Dk * V * u)) (hB : bd (Dk * V) B) (ha : Nr lo hi a A (Di * V * u)) (hA : bd (Di * V) A) (htD : tau * Dk = Di)
    (u0 : 0 ≤ u) (u1 : u ≤ 1 / 100) (hv : v = 5 / 2 * u + 3 * eps) (d0 : 0 ≤ Di * V) (hD : Di * V = 0 ∨ eta ≤ eps * (Di * V)) (hG : 2 * (Di * V) ≤ Big) :
    ∃ c, lpX mu su a t b = some c ∧ ok c ∧ Nr lo hi c (A - T * B) (Di * V * (4 * u + 12 * eps)) := by
  have e0 := eps_pos
  have e1 := eps_le
  have v0 : 0 ≤ v := by grind
  have uv : u * v ≤ 1 / 100 * v := mul_le_r v0 u1
  have uv0 := Rat.mul_nonneg u0 v0
  have E1 : tau * (1 / 4) * (Dk * V * u) + Dk * V * (tau * v) + tau * v * (Dk * V * u) = Di * V * (u / 4 + v + u * v) := by rw [← htD]; grind
  have E2 : tau * (1 / 4) * (Dk * V) = Di * V * (1 / 4) := by rw [← htD]; grind
  generalize hE : Di * V = E at *
  have L1 := mul_le_l (a := E) d0 (show u / 4 + v + u * v ≤ 1 by grind)
  obtain ⟨p, hp, op, np⟩ := nr_mul H (S := E) ot ob ht hb hT hB (by rw [E1, E2]; grind) hD hG
  rw [E1] at np
  have hTB : bd (E * (1 / 4)) (T * B) := by have := bd_mul hT hB; rwa [E2] at this
  have L2 := mul_le_l (a := E) d0 (show u + (u / 4 + v + u * v) + 3 * eps ≤ 1 / 2 by grind)
  obtain ⟨c, hc, oc, nc⟩ := nr_sub H (S := E) oa op ha np hA hTB (by grind) hD hG
  refine ⟨c, by unfold lpX; rw [hp]; exact hc, oc, nc.le ?_⟩
  have L3 := mul_le_l (a := E) d0 (show u + (u / 4 + v + u * v) + 6 * eps ≤ 4 * u + 12 * eps by grind)
  grind
end
end Go.Proofs.YtonhpkigoplmaaaGreatDoor
namespace Go.Proofs.YtonhpkigoplmaaaGreatDoor

section
variable {α : Type} (lo hi : α → Rat) (ok : α → Prop)

/-- The rows from the k-th on: near to the numbers R, whose diagonal is heavy. -/
structure Stage (n k : Nat) (M : Nat → Nat → α) (R : Nat → Nat → Rat) (u V Dl Dh : Rat) : Prop where
  oks : ∀ i j, k ≤ i → i < n → k ≤ j → j ≤ n → ok (M i j)
  low : ∀ i, k ≤ i → i < n → Dl ≤ ab (R i i)
  high : ∀ i, k ≤ i → i < n → ab (R i i) ≤ Dh
  dom : ∀ i, k ≤ i → i < n → sumR (n - k) (fun j => ab (R i (k + j))) ≤ 5 / 4 * ab (R i i)
  near : ∀ i j, k ≤ i → i < n → k ≤ j → j < n → Nr lo hi (M i j) (R i j) (ab (R i i) * u)
  rnear : ∀ i, k ≤ i → i < n → Nr lo hi (M i n) (R i n) (ab (R i i) * V * u)
  rbd : ∀ i, k ≤ i → i < n → bd (ab (R i i) * V) (R i n)
end

section
variable {α : Type} {lo hi : α → Rat} {ok : α → Prop} {n k : Nat} {M : Nat → Nat → α} {R : Nat → Nat → Rat} {u V Dl Dh : Rat}

theorem Stage.off (s : Stage lo hi ok n k M R u V Dl Dh) {i j : Nat} (h1 : k ≤ i) (h2 : i < n) (h3 : k ≤ j) (h4 : j < n) (hij : i ≠ j) : bd (ab (R i i) * (1 / 4)) (R i j) := by
  have h := sum_two (f := fun x => ab (R i (k + x))) (fun x => ab_nonneg _) (i := i - k) (j := j - k) (by omega) (n - k) (by omega) (by omega)
  simp only [show k + (i - k) = i by omega, show k + (j - k) = j by omega] at h
  have := s.dom i h1 h2
  exact bd_of_ab (by grind)

theorem Stage.all (s : Stage lo hi ok n k M R u V Dl Dh) {i j : Nat} (h1 : k ≤ i) (h2 : i < n) (h3 : k ≤ j) (h4 : j < n) : bd (ab (R i i)) (R i j) := by
  by_cases hij : i = j
  · subst hij; exact bd_ab _
  · have h0 := ab_nonneg (R i i)
    exact bd_le (s.off h1 h2 h3 h4 hij) (by grind)

/-- A diagonal's two sides. -/
theorem diag_far {a : α} {A d : Rat} (h : Nr lo hi a A d) : (∀ x, isEnd lo hi a x → ab A - d ≤ x) ∨ (∀ x, isEnd lo hi a x → x ≤ -(ab A - d)) := by
  rcases ab_cases A with ⟨_, e⟩ | ⟨_, e⟩
  · left
    intro x hx
    have := h.at hx
    unfold bd at this; grind
  · right
    intro x hx
    have := h.at hx
    unfold bd at this; grind

theorem Stage.piv (s : Stage lo hi ok n k M R u V Dl Dh) (hk : k < n) (hl : 0 < Dl) (u0 : 0 ≤ u) (u1 : u ≤ 1 / 100) : PivAt (lo := lo) (hi := hi) M n k := by
  constructor
  · have hD := s.low k (by omega) hk
    generalize hDk : ab (R k k) = Dk at *
    have f := diag_far (s.near k k (by omega) hk (by omega) hk)
    rw [hDk] at f
    have d0 : 0 ≤ Dk := by grind
    have p1 := mul_le_l d0 u1
    refine ⟨Dk - Dk * u, by grind, f, fun j x h1 h2 hx => ?_⟩
    have a := s.all (i := k) (j := j) (by omega) hk h1 h2
    have := (s.near k j (by omega) hk h1 h2).end hx a
    rw [hDk] at this
    exact bd_le this (by grind)
  · intro i hi1 hi2
    have hD := s.low i (by omega) hi2
    have f := diag_far (s.near i i (by omega) hi2 (by omega) hi2)
    have a := s.off (i := i) (j := k) (by omega) hi2 (by omega) hk (by omega)
    have b := fun x hx => (s.near i k (by omega) hi2 (by omega) hk).end (x := x) hx a
    generalize hDi : ab (R i i) = Di at *
    have d0 : 0 ≤ Di := by grind
    have p0 := Rat.mul_nonneg d0 u0
    have p1 := mul_le_l d0 u1
    refine ⟨Di * (1 / 4) + Di * u, by grind, b, ?_⟩
    rcases f with f | f
    · left; intro x hx; have := f x hx; grind
    · right; intro x hx; have := f x hx; grind

/-- Numbers whose quotients are bounded. -/
theorem tau_bounds {Di Dk a b : Rat} (ha : 0 < a) (h1 : a ≤ Di) (h2 : a ≤ Dk) (h3 : Di ≤ b) (h4 : Dk ≤ b) : a / b ≤ Di / Dk ∧ Di / Dk ≤ b / a := by
  have hb : 0 < b := by grind
  have hk : 0 < Dk := by grind
  constructor
  · apply Decidable.byContradiction
    intro hc
    have p1 := Rat.mul_pos (show 0 < a / b - Di / Dk by grind) hk
    have e1 : a / b * b = a := by grind
    have e2 : Di / Dk * Dk = Di := by grind
    have q : 0 ≤ a / b := by
      apply Decidable.byContradiction
      intro hn
      have := Rat.mul_pos (show 0 < -(a / b) by grind) hb
      grind
    have p2 := mul_le_l q h4
    grind
  · apply Decidable.byContradiction
    intro hc
    have p1 := Rat.mul_pos (show 0 < Di / Dk - b / a by grind) hk
    have e1 : b / a * a = b := by grind
    have e2 : Di / Dk * Dk = Di := by grind
    have q : 0 ≤ b / a := by
      apply Decidable.byContradiction
      intro hn
      have := Rat.mul_pos (show 0 < -(b / a) by grind) ha
      grind
    have p2 := mul_le_l q h2
    grind
end

def dLow : Rat := 1 / 17179869184
def dHigh : Rat := 17179869184
def vLow : Rat := 1 / 18446744073709551616
def vHigh : Rat := 18446744073709551616

section
variable {α : Type} {lo hi : α → Rat} {eta Big : Rat} {mu su qo : α → α → Option α} {pv : (Nat → Nat → α) → Nat → Nat → Option Nat} {ok : α → Prop}
  {n k : Nat} {M : Nat → Nat → α} {R : Nat → Nat → Rat} {u V Dl Dh : Rat}

/-- A row of the next stage. -/
theorem Stage.row (H : Near lo hi eta Big mu su qo pv ok) (s : Stage lo hi ok n k M R u V Dl Dh) (hk : k < n) {i : Nat} (hi1 : k < i) (hi2 : i < n) (hl : dLow ≤ Dl) (hh : Dh ≤ dHigh) (u0 : 0 ≤ u) (u1 : u ≤ 1 / 100) (hV : V = 0 ∨ vLow ≤ V) (hV2 : V ≤ vHigh) (he : eta ≤ eps * tiny) (hG : huge ≤ Big) :
    ∃ r, takeX mu su qo n k (M i) (M k) = some r ∧ (∀ j, k < j → j ≤ n → ok (r j)) ∧ (∀ j, k < j → j < n → Nr lo hi (r j) (R i j - R i k / R k k * R k j) (ab (R i i) * (2 * u + 8 * eps))) ∧ Nr lo hi (r n) (R i n - R i k / R k k * R k n) (ab (R i i) * V * (4 * u + 12 * eps)) := by
  have e0 := eps_pos
  have e1 := eps_le
  have Di1 := s.low i (by omega) hi2
  have Di2 := s.high i (by omega) hi2
  have Dk1 := s.low k (by omega) hk
  have Dk2 := s.high k (by omega) hk
  have hdl : 0 < dLow := by unfold dLow; grind
  have offk := s.off (i := i) (j := k) (by omega) hi2 (by omega) hk (by omega)
  have nik := s.near i k (by omega) hi2 (by omega) hk
  have nkk := s.near k k (by omega) hk (by omega) hk
  have hkk := ab_cases (R k k)
  have hk0 : R k k ≠ 0 := by intro hc; rw [hc, ab_zero] at Dk1; grind
  have eT : R i k / R k k * R k k = R i k := by grind
  have abT : ab (R i k / R k k) * ab (R k k) = ab (R i k) := by rw [← ab_mul, eT]
  have hik := ab_le offk
  have sk : ∀ j, k < j → j < n → bd (ab (R k k) * (1 / 4)) (R k j) := fun j a b => s.off (by omega) hk (by omega) b (by omega)
  have nkj : ∀ j, k < j → j < n → Nr lo hi (M k j) (R k j) (ab (R k k) * u) := fun j a b => s.near k j (by omega) hk (by omega) b
  have nij : ∀ j, k < j → j < n → Nr lo hi (M i j) (R i j) (ab (R i i) * u) := fun j a b => s.near i j (by omega) hi2 (by omega) b
  have aij : ∀ j, k < j → j < n → bd (ab (R i i)) (R i j) := fun j a b => s.all (by omega) hi2 (by omega) b
  have rk := s.rnear k (by omega) hk
  have rkb := s.rbd k (by omega) hk
  have ri := s.rnear i (by omega) hi2
  have rib := s.rbd i (by omega) hi2
  generalize hDi : ab (R i i) = Di at *
  generalize hDk : ab (R k k) = Dk at *
  obtain ⟨t1, t2⟩ := tau_bounds (Di := Di) (Dk := Dk) hdl (by grind) (by grind) (show Di ≤ dHigh by grind) (show Dk ≤ dHigh by grind)
  have htD : Di / Dk * Dk = Di := by grind
  generalize Di / Dk = tau at *
  have hDk0 : 0 < Dk := by grind
  have tl : tiny ≤ tau := by unfold tiny dLow dHigh at *; grind
  have tb : 2 * tau ≤ Big := by unfold huge dLow dHigh at *; grind
  have hT : bd (tau * (1 / 4)) (R i k / R k k) := by
    apply bd_of_ab
    apply Decidable.byContradiction
    intro hc
    have := Rat.mul_pos (show 0 < ab (R i k / R k k) - tau * (1 / 4) by grind) hDk0
    grind
  have p1 := mul_le_l (Rat.le_of_lt hDk0) u1
  have tau0 : 0 ≤ tau := by unfold tiny at tl; grind
  have p2 := mul_le_l tau0 u1
  obtain ⟨_, t, ht, ot, nt⟩ := nr_quo H (Q := tau * (1 / 4)) (g := tau * (5 / 2 * u)) (L := Dk) (S := tau) (s.oks i k (by omega) hi2 (by omega) (by omega)) (s.oks k k (by omega) hk (by omega) (by omega)) nik nkk hDk0 (by rcases hkk with ⟨_, h⟩ | ⟨_, h⟩ <;> grind) (by grind) hT
    (by rw [show tau * (5 / 2 * u) * (Dk / 2) = tau * Dk * (5 / 4 * u) by grind, show tau * (1 / 4) * (Dk * u) = tau * Dk * (1 / 4 * u) by grind, htD]; grind) (by grind) (S_ok he tl) tb
  have nt' : Nr lo hi t (R i k / R k k) (tau * (5 / 2 * u + 3 * eps)) := nt.le (by grind)
  have hDt : tiny ≤ Di := by unfold tiny dLow at *; grind
  have hDb : 2 * Di ≤ Big := by unfold huge dHigh at *; grind
  have hE0 : 0 ≤ Di * V := by
    rcases hV with h | h
    · rw [h]; grind
    · exact Rat.mul_nonneg (by grind) (by unfold vLow at h; grind)
  have hE1 : Di * V = 0 ∨ eta ≤ eps * (Di * V) := by
    rcases hV with h | h
    · left; rw [h]; grind
    · refine S_ok he ?_
      have := mul_le_2 (a := dLow) (b := Di) (x := vLow) (y := V) (by grind) (by unfold vLow; grind) (by grind) h
      unfold tiny dLow vLow at *; grind
  have hE2 : 2 * (Di * V) ≤ Big := by
    have hV0 : 0 ≤ V := by rcases hV with h | h <;> (unfold vLow at *; grind)
    have := mul_le_2 (a := Di) (b := dHigh) (x := V) (y := vHigh) (by grind) hV0 (by grind) hV2
    unfold huge dHigh vHigh at *; grind
  obtain ⟨r, h1, h2, _⟩ := takeJ_some (mu := mu) (su := su) (t := t) (br := M k) (P := fun j c => ok c ∧ (j < n → Nr lo hi c (R i j - R i k / R k k * R k j) (Di * (2 * u + 8 * eps))) ∧ (j = n → Nr lo hi c (R i n - R i k / R k k * R k n) (Di * V * (4 * u + 12 * eps)))) (n - k) (k + 1) (M i) (by
    intro j a b
    by_cases hj : j = n
    · subst hj
      obtain ⟨c, hc, oc, nc⟩ := lp_nearR H (s.oks i j (by omega) hi2 (by omega) (by omega)) (s.oks k j (by omega) hk (by omega) (by omega)) ot nt' hT rk rkb ri rib htD u0 u1 rfl hE0 hE1 hE2
      exact ⟨c, hc, oc, fun h => by omega, fun _ => nc⟩
    · have hjn : j < n := by omega
      obtain ⟨c, hc, oc, nc⟩ := lp_near H (s.oks i j (by omega) hi2 (by omega) (by omega)) (s.oks k j (by omega) hk (by omega) (by omega)) ot nt' hT (nkj j (by omega) hjn) (sk j (by omega) hjn) (nij j (by omega) hjn) (aij j (by omega) hjn) htD u0 u1 rfl he hDt hDb
      exact ⟨c, hc, oc, fun _ => nc, fun h => absurd h hj⟩)
  refine ⟨r, by unfold takeX; rw [ht]; exact h1, fun j a b => (h2 j (by omega) (by omega)).1, fun j a b => (h2 j (by omega) (by omega)).2.1 b, (h2 n (by omega) (by omega)).2.2 rfl⟩

/-- The diagonal stays heavy. -/
theorem Stage.heavy (s : Stage lo hi ok n k M R u V Dl Dh) (hk : k < n) {i : Nat} (hi1 : k < i) (hi2 : i < n) (hl : 0 < Dl) :
    15 / 16 * ab (R i i) ≤ ab (R i i - R i k / R k k * R k i) ∧ ab (R i i - R i k / R k k * R k i) ≤ 17 / 16 * ab (R i i) ∧ sumR (n - (k + 1)) (fun j => ab (R i (k + 1 + j) - R i k / R k k * R k (k + 1 + j))) ≤ 5 / 4 * ab (R i i - R i k / R k k * R k i) ∧ bd (5 / 4 * (ab (R i i) * V)) (R i n - R i k / R k k * R k n) := by
  have Dk1 := s.low k (by omega) hk
  have hk0 : R k k ≠ 0 := by intro hc; rw [hc, ab_zero] at Dk1; grind
  have eT : R i k / R k k * R k k = R i k := by grind
  have abT : ab (R i k / R k k) * ab (R k k) = ab (R i k) := by rw [← ab_mul, eT]
  have offk := ab_le (s.off (i := i) (j := k) (by omega) hi2 (by omega) hk (by omega))
  have offi := ab_le (s.off (i := k) (j := i) (by omega) hk (by omega) hi2 (by omega))
  have di := s.dom i (by omega) hi2
  have dk := s.dom k (by omega) hk
  rw [show n - k = (n - (k + 1)) + 1 by omega, sumR_shift] at di dk
  simp only [Nat.add_zero] at di dk
  have hs := sum_sub (g := fun j => R i (k + 1 + j)) (h := fun j => R k (k + 1 + j)) (R i k / R k k) (n - (k + 1))
  have c1 : ∀ y, sumR (n - (k + 1)) (fun j => ab (R y (k + (j + 1)))) = sumR (n - (k + 1)) (fun j => ab (R y (k + 1 + j))) := fun y => sumR_congr (fun j _ => by rw [show k + (j + 1) = k + 1 + j by omega])
  rw [c1] at di dk
  have g1 := ab_sub (R i i) (R i k / R k k * R k i)
  have g2 := ab_sub_ge (R i i) (R i k / R k k * R k i)
  rw [ab_mul] at g1 g2
  have rk := s.rbd k (by omega) hk
  have ri := s.rbd i (by omega) hi2
  have hm := bd_mul (bd_ab (R i k / R k k)) rk
  have hr := bd_sub ri hm
  have T0 := ab_nonneg (R i k / R k k)
  have m1 := mul_le_l T0 offi
  have m2 := mul_le_l T0 dk
  generalize sumR (n - (k + 1)) (fun j => ab (R i (k + 1 + j))) = Si at *
  generalize sumR (n - (k + 1)) (fun j => ab (R k (k + 1 + j))) = Sk at *
  generalize sumR (n - (k + 1)) (fun j => ab (R i (k + 1 + j) - R i k / R k k * R k (k + 1 + j))) = S at *
  generalize ab (R i i - R i k / R k k * R k i) = D' at *
  generalize ab (R k i) = aki at *
  generalize ab (R i k / R k k) = T at *
  generalize ab (R k k) = Dk at *
  generalize ab (R i i) = Di at *
  generalize haik : ab (R i k) = aik at *
  have n1 := ab_nonneg (R i k)
  rw [haik] at n1
  refine ⟨by grind, by grind, by grind, bd_le hr ?_⟩
  have V0 : 0 ≤ Dk * V := bd_nonneg rk
  have q : T * (Dk * V) = aik * V := by rw [← abT]; grind
  have hV : 0 ≤ V := by
    apply Decidable.byContradiction
    intro hc
    have := Rat.mul_pos (show 0 < Dk by grind) (show 0 < -V by grind)
    grind
  have := mul_le_r hV offk
  grind

/-- The next stage. -/
theorem Stage.next (H : Near lo hi eta Big mu su qo pv ok) (s : Stage lo hi ok n k M R u V Dl Dh) (hk : k < n) (hl : dLow ≤ Dl) (hh : Dh ≤ dHigh) (u0 : 0 ≤ u) (u1 : u ≤ 1 / 100) (hV : V = 0 ∨ vLow ≤ V) (hV2 : V ≤ vHigh) (he : eta ≤ eps * tiny) (hG : huge ≤ Big) :
    ∃ M', takeI mu su qo n k (n - 1 - k) (k + 1) (swapR M k k) = some M' ∧ (∀ y, y ≤ k → M' y = M y) ∧ Stage lo hi ok n (k + 1) M' (fun y x => R y x - R y k / R k k * R k x) (4 * u + 16 * eps) (4 / 3 * V) (Dl / 2) (2 * Dh) := by
  have e0 := eps_pos
  have hdl : 0 < dLow := by unfold dLow; grind
  have hsw : swapR M k k = M := by
    funext y; unfold swapR
    by_cases hy : y = k
    · rw [if_pos hy, hy]
    · rw [if_neg hy, if_neg hy]
  rw [hsw]
  obtain ⟨M', h1, h2, h3⟩ := takeI_some (mu := mu) (su := su) (qo := qo) (n := n) (k := k) (P := fun i r => (∀ j, k < j → j ≤ n → ok (r j)) ∧ (∀ j, k < j → j < n → Nr lo hi (r j) (R i j - R i k / R k k * R k j) (ab (R i i) * (2 * u + 8 * eps))) ∧ Nr lo hi (r n) (R i n - R i k / R k k * R k n) (ab (R i i) * V * (4 * u + 12 * eps))) (n - 1 - k) (k + 1) M (by omega) (fun y a b => s.row H hk (by omega) (by omega) hl hh u0 u1 hV hV2 he hG)
  have hV0 : 0 ≤ V := by rcases hV with h | h <;> (unfold vLow at *; grind)
  refine ⟨M', h1, fun y hy => h3 y (by omega), ?_⟩
  have hv := fun i (a : k < i) (b : i < n) => s.heavy hk a b (by grind)
  have hp := fun i (a : k < i) (b : i < n) => h2 i (by omega) (by omega)
  constructor
  · intro i j a b c d; exact (hp i (by omega) b).1 j (by omega) d
  · intro i a b
    have := (hv i (by omega) b).1
    have := s.low i (by omega) b
    show Dl / 2 ≤ ab (R i i - R i k / R k k * R k i)
    grind
  · intro i a b
    have := (hv i (by omega) b).2.1
    have := s.high i (by omega) b
    have := s.low i (by omega) b
    show ab (R i i - R i k / R k k * R k i) ≤ 2 * Dh
    grind
  · intro i a b; exact (hv i (by omega) b).2.2.1
  · intro i j a b c d
    refine ((hp i (by omega) b).2.1 j (by omega) d).le ?_
    have g := (hv i (by omega) b).1
    have := mul_le_r (a := 2 * u + 8 * eps) (by grind) g
    have q := ab_nonneg (R i i - R i k / R k k * R k i)
    have := mul_le_l q (show (2 * u + 8 * eps) * (16 / 15) ≤ 4 * u + 16 * eps by grind)
    show ab (R i i) * (2 * u + 8 * eps) ≤ ab (R i i - R i k / R k k * R k i) * (4 * u + 16 * eps)
    grind
  · intro i a b
    refine (hp i (by omega) b).2.2.le ?_
    have g := (hv i (by omega) b).1
    have g2 := mul_le_r (a := V * (4 * u + 12 * eps)) (Rat.mul_nonneg hV0 (by grind)) g
    have q := Rat.mul_nonneg (ab_nonneg (R i i - R i k / R k k * R k i)) hV0
    have := mul_le_l q (show (4 * u + 12 * eps) * (16 / 15) ≤ 4 / 3 * (4 * u + 16 * eps) by grind)
    show ab (R i i) * V * (4 * u + 12 * eps) ≤ ab (R i i - R i k / R k k * R k i) * (4 / 3 * V) * (4 * u + 16 * eps)
    grind
  · intro i a b
    refine bd_le (hv i (by omega) b).2.2.2 ?_
    have g := mul_le_r hV0 (hv i (by omega) b).1
    show 5 / 4 * (ab (R i i) * V) ≤ ab (R i i - R i k / R k k * R k i) * (4 / 3 * V)
    grind
end
end Go.Proofs.YtonhpkigoplmaaaGreatDoor
namespace Go.Proofs.YtonhpkigoplmaaaGreatDoor

/-- What the stages lose, and how the right side grows. -/
def uS : Nat → Rat
  | 0 => 0
  | k + 1 => 4 * uS k + 16 * eps
def vS (V : Rat) : Nat → Rat
  | 0 => V
  | k + 1 => 4 / 3 * vS V k
def lS : Nat → Rat
  | 0 => 1 / 1073741824
  | k + 1 => lS k / 2
def hS : Nat → Rat
  | 0 => 1073741824
  | k + 1 => 2 * hS k

theorem uS_le {k : Nat} (h : k ≤ 3) : 0 ≤ uS k ∧ uS k ≤ 336 * eps := by
  have e0 := eps_pos
  rcases (show k = 0 ∨ k = 1 ∨ k = 2 ∨ k = 3 by omega) with rfl | rfl | rfl | rfl <;> (simp only [uS]; constructor <;> grind)
theorem vS_le {k : Nat} {V : Rat} (h : k ≤ 3) (h0 : 0 ≤ V) : V ≤ vS V k ∧ vS V k ≤ 64 / 27 * V := by
  rcases (show k = 0 ∨ k = 1 ∨ k = 2 ∨ k = 3 by omega) with rfl | rfl | rfl | rfl <;> (simp only [vS]; constructor <;> grind)
theorem lS_le {k : Nat} (h : k ≤ 4) : dLow ≤ lS k ∧ hS k ≤ dHigh := by
  rcases (show k = 0 ∨ k = 1 ∨ k = 2 ∨ k = 3 ∨ k = 4 by omega) with rfl | rfl | rfl | rfl | rfl <;> (simp only [lS, hS, dLow, dHigh]; constructor <;> grind)

section
variable {α : Type} (lo hi : α → Rat) (ok : α → Prop)

/-- A row of steps: near to its numbers. -/
structure StepRow (n y : Nat) (m : Nat → α) (r : Nat → Rat) (V : Rat) : Prop where
  oks : ∀ j, y ≤ j → j ≤ n → ok (m j)
  low : dLow ≤ ab (r y)
  high : ab (r y) ≤ dHigh
  diag : Nr lo hi (m y) (r y) (ab (r y) * (336 * eps))
  near : ∀ j, y < j → j < n → Nr lo hi (m j) (r j) (ab (r y) * (336 * eps)) ∧ bd (ab (r y) * (1 / 4)) (r j)
  rnear : Nr lo hi (m n) (r n) (ab (r y) * V * (336 * eps))
  rbd : bd (ab (r y) * V) (r n)
end

section
variable {α : Type} {lo hi : α → Rat} {eta Big : Rat} {mu su qo : α → α → Option α} {pv : (Nat → Nat → α) → Nat → Nat → Option Nat} {ok : α → Prop}

theorem elimX_near (H : Near lo hi eta Big mu su qo pv ok) {n : Nat} (hn : n ≤ 4) {V : Rat} (hV : V = 0 ∨ 16 * vLow ≤ V) (hV2 : 16 * V ≤ vHigh) (he : eta ≤ eps * tiny) (hG : huge ≤ Big) : ∀ (f k : Nat) (M : Nat → Nat → α) (R : Nat → Nat → Rat), k + f = n → Stage lo hi ok n k M R (uS k) (vS V k) (lS k) (hS k) →
    ∃ (M' : Nat → Nat → α) (R' : Nat → Nat → Rat), elimX mu su qo pv n f k M = some M' ∧ (∀ y, y < k → M' y = M y) ∧ ∀ y, k ≤ y → y < n → StepRow lo hi ok n y (M' y) (R' y) (64 / 27 * V)
  | 0, k, M, R, hk, s => ⟨M, R, rfl, fun y _ => rfl, fun y a b => by omega⟩
  | f + 1, k, M, R, hk, s => by
    have e0 := eps_pos
    have e1 := eps_le
    have hV0 : 0 ≤ V := by rcases hV with h | h <;> (unfold vLow at *; grind)
    obtain ⟨u0, u1⟩ := uS_le (k := k) (by omega)
    obtain ⟨v0, v1⟩ := vS_le (k := k) (V := V) (by omega) hV0
    obtain ⟨l0, l1⟩ := lS_le (k := k) (by omega)
    have hp := H.pv M n k (by omega) (fun i j a b c d => s.oks i j a b c (by omega)) (s.piv (by omega) (by unfold dLow at l0; grind) u0 (by grind))
    have hVk : vS V k = 0 ∨ vLow ≤ vS V k := by
      rcases hV with h | h
      · left; grind
      · right; unfold vLow at *; grind
    obtain ⟨M1, h1, h2, h3⟩ := s.next H (by omega) l0 l1 u0 (by grind) hVk (by unfold vHigh at *; grind) he hG
    obtain ⟨M', R', g1, g2, g3⟩ := elimX_near H hn hV hV2 he hG f (k + 1) M1 _ (by omega) h3
    refine ⟨M', fun y => if y = k then R k else R' y, ?_, fun y hy => by rw [g2 y (by omega), h2 y (by omega)], fun y a b => ?_⟩
    · show (pv M n k).bind _ = _
      rw [hp]
      show (takeI mu su qo n k (n - 1 - k) (k + 1) (swapR M k k)).bind _ = _
      rw [h1]; exact g1
    · by_cases hy : y = k
      · subst hy
        simp only [if_pos]
        rw [g2 y (by omega), h2 y (by omega)]
        have q := ab_nonneg (R y y)
        have m1 := mul_le_l q u1
        have m2 := mul_le_l q v1
        have m3 := Rat.mul_nonneg q (show 0 ≤ vS V y by grind)
        have m4 := mul_le_l m3 u1
        have m5 := mul_le_r (show 0 ≤ 336 * eps by grind) m2
        exact ⟨fun j a b => s.oks y j (by omega) (by omega) a b, by have := s.low y (by omega) (by omega); grind, by have := s.high y (by omega) (by omega); grind, (s.near y y (by omega) (by omega) (by omega) (by omega)).le m1, fun j a b => ⟨(s.near y j (by omega) (by omega) (by omega) b).le m1, s.off (by omega) (by omega) (by omega) b (by omega)⟩, (s.rnear y (by omega) (by omega)).le (by grind), bd_le (s.rbd y (by omega) (by omega)) m2⟩
      · simp only [if_neg hy]
        exact g3 y (by omega) b

/-- What is left of the right side behind f entries. -/
theorem restJ_near (H : Near lo hi eta Big mu su qo pv ok) {n y : Nat} {m g : Nat → α} {r X : Nat → Rat} {V Y w : Rat} (hn : n ≤ 4) (s : StepRow lo hi ok n y m r V) (hVY : V ≤ Y) (w0 : 0 ≤ w) (w1 : w ≤ 1 / 100) (og : ∀ j, y < j → j < n → ok (g j)) (hg : ∀ j, y < j → j < n → Nr lo hi (g j) (X j) (Y * w) ∧ bd Y (X j))
    (hD0 : 0 ≤ ab (r y) * Y) (hD1 : ab (r y) * Y = 0 ∨ eta ≤ eps * (ab (r y) * Y)) (hD2 : 4 * (ab (r y) * Y) ≤ Big) :
    ∀ (f c : Nat) (a : α) (A : Rat), c + f + 1 + y = n → ok a → Nr lo hi a A (ab (r y) * Y * (336 * eps + c * (w / 2 + 400 * eps))) → bd (ab (r y) * Y * (1 + c / 4)) A → ∃ b, restJ mu su m g f (y + 1 + c) a = some b ∧ ok b ∧ Nr lo hi b (A - sumR f (fun i => r (y + 1 + c + i) * X (y + 1 + c + i))) (ab (r y) * Y * (336 * eps + ((c + f : Nat) : Rat) * (w / 2 + 400 * eps))) ∧ bd (ab (r y) * Y * (1 + ((c + f : Nat) : Rat) / 4)) (A - sumR f (fun i => r (y + 1 + c + i) * X (y + 1 + c + i)))
  | 0, c, a, A, _, oa, na, ba => ⟨a, rfl, oa, by show Nr lo hi a (A - 0) _; rw [show A - 0 = A by grind]; exact na, by show bd _ (A - 0); rw [show A - 0 = A by grind]; exact ba⟩
  | f + 1, c, a, A, hc, oa, na, ba => by
    have e0 := eps_pos
    have e1 := eps_le
    obtain ⟨ng, bg⟩ := hg (y + 1 + c) (by omega) (by omega)
    obtain ⟨nm, bm⟩ := s.near (y + 1 + c) (by omega) (by omega)
    have hc3 : (c : Rat) ≤ 2 := by
      rcases (show c = 0 ∨ c = 1 ∨ c = 2 by omega) with rfl | rfl | rfl <;> grind
    have hc0 : (0 : Rat) ≤ (c : Rat) := by
      rcases (show c = 0 ∨ c = 1 ∨ c = 2 by omega) with rfl | rfl | rfl <;> grind
    generalize hD : ab (r y) = D at *
    have E1 : D * (1 / 4) * (Y * w) + Y * (D * (336 * eps)) + D * (336 * eps) * (Y * w) = D * Y * (w / 4 + 336 * eps + 336 * (eps * w)) := by grind
    have E2 : D * (1 / 4) * Y = D * Y * (1 / 4) := by grind
    have E3 : Y * (D * (336 * eps)) = D * Y * (336 * eps) := by grind
    have ew := mul_le_l (Rat.le_of_lt e0) w1
    have ew0 := Rat.mul_nonneg (Rat.le_of_lt e0) w0
    have cw := mul_le_r (show 0 ≤ w / 2 + 400 * eps by grind) hc3
    have cw0 := Rat.mul_nonneg hc0 (show 0 ≤ w / 2 + 400 * eps by grind)
    generalize hE : D * Y = E at *
    have L1 := mul_le_l hD0 (show w / 4 + 336 * eps + 336 * (eps * w) ≤ 1 by grind)
    obtain ⟨p, hp, op, np⟩ := nr_mul H (S := E) (s.oks _ (by omega) (by omega)) (og _ (by omega) (by omega)) nm ng bm bg (by rw [E1, E2]; grind) hD1 (by grind)
    rw [E1] at np
    have bp : bd (E * (1 / 4)) (r (y + 1 + c) * X (y + 1 + c)) := by have := bd_mul bm bg; rwa [E2] at this
    have eE := Rat.mul_nonneg (Rat.le_of_lt e0) hD0
    have L2 := mul_le_l hD0 (show (1 + (c : Rat) / 4) + 1 / 4 + (336 * eps + c * (w / 2 + 400 * eps)) + (w / 4 + 336 * eps + 336 * (eps * w)) + 3 * eps ≤ 4 by grind)
    obtain ⟨d, hd, od, nd⟩ := nr_sub H (S := 2 * E) oa op na np ba bp (by grind) (by rcases hD1 with h | h; (left; grind); (right; grind)) (by grind)
    have bb := bd_sub ba bp
    obtain ⟨b, hb, ob, nb, bb'⟩ := restJ_near H hn s hVY w0 w1 og hg (by rw [hD, hE]; exact hD0) (by rw [hD, hE]; exact hD1) (by rw [hD, hE]; exact hD2) f (c + 1) d (A - r (y + 1 + c) * X (y + 1 + c)) (by omega) od
      (nd.le (by
        have L3 := mul_le_l hD0 (show (336 * eps + c * (w / 2 + 400 * eps)) + (w / 4 + 336 * eps + 336 * (eps * w)) + 9 * eps ≤ 336 * eps + ((c : Rat) + 1) * (w / 2 + 400 * eps) by grind)
        rw [hD, hE]
        have : (((c + 1 : Nat)) : Rat) = (c : Rat) + 1 := by grind
        rw [this]; grind))
      (bd_le bb (by
        rw [hD, hE]
        have : (((c + 1 : Nat)) : Rat) = (c : Rat) + 1 := by grind
        rw [this]; grind))
    rw [hD, hE] at nb bb'
    refine ⟨b, ?_, ob, ?_, ?_⟩
    · show (lpX mu su a (m (y + 1 + c)) (g (y + 1 + c))).bind _ = _
      have : lpX mu su a (m (y + 1 + c)) (g (y + 1 + c)) = some d := by unfold lpX; rw [hp]; exact hd
      rw [this]; exact hb
    · have e : A - sumR (f + 1) (fun i => r (y + 1 + c + i) * X (y + 1 + c + i)) = A - r (y + 1 + c) * X (y + 1 + c) - sumR f (fun i => r (y + 1 + (c + 1) + i) * X (y + 1 + (c + 1) + i)) := by
        rw [sumR_shift]
        simp only [Nat.add_zero]
        rw [show sumR f (fun j => r (y + 1 + c + (j + 1)) * X (y + 1 + c + (j + 1))) = sumR f (fun i => r (y + 1 + (c + 1) + i) * X (y + 1 + (c + 1) + i)) from sumR_congr (fun j _ => by rw [show y + 1 + c + (j + 1) = y + 1 + (c + 1) + j by omega])]
        grind
      rw [e, show c + (f + 1) = c + 1 + f by omega]; exact nb
    · have e : A - sumR (f + 1) (fun i => r (y + 1 + c + i) * X (y + 1 + c + i)) = A - r (y + 1 + c) * X (y + 1 + c) - sumR f (fun i => r (y + 1 + (c + 1) + i) * X (y + 1 + (c + 1) + i)) := by
        rw [sumR_shift]
        simp only [Nat.add_zero]
        rw [show sumR f (fun j => r (y + 1 + c + (j + 1)) * X (y + 1 + c + (j + 1))) = sumR f (fun i => r (y + 1 + (c + 1) + i) * X (y + 1 + (c + 1) + i)) from sumR_congr (fun j _ => by rw [show y + 1 + c + (j + 1) = y + 1 + (c + 1) + j by omega])]
        grind
      rw [e, show c + (f + 1) = c + 1 + f by omega]; exact bb'
end
end Go.Proofs.YtonhpkigoplmaaaGreatDoor
namespace Go.Proofs.YtonhpkigoplmaaaGreatDoor

def wS : Nat → Rat
  | 0 => 0
  | k + 1 => 3 / 2 * wS k + 2300 * eps
def yS (Y : Rat) : Nat → Rat
  | 0 => Y
  | k + 1 => 2 * yS Y k

theorem wS_le {k : Nat} (h : k ≤ 4) : 0 ≤ wS k ∧ wS k ≤ 18688 * eps := by
  have e0 := eps_pos
  rcases (show k = 0 ∨ k = 1 ∨ k = 2 ∨ k = 3 ∨ k = 4 by omega) with rfl | rfl | rfl | rfl | rfl <;> (simp only [wS]; constructor <;> grind)
theorem yS_le {k : Nat} {Y : Rat} (h : k ≤ 4) (h0 : 0 ≤ Y) : Y ≤ yS Y k ∧ yS Y k ≤ 16 * Y := by
  rcases (show k = 0 ∨ k = 1 ∨ k = 2 ∨ k = 3 ∨ k = 4 by omega) with rfl | rfl | rfl | rfl | rfl <;> (simp only [yS]; constructor <;> grind)

section
variable {α : Type} {lo hi : α → Rat} {eta Big : Rat} {mu su qo : α → α → Option α} {pv : (Nat → Nat → α) → Nat → Nat → Option Nat} {ok : α → Prop}

theorem substX_near (H : Near lo hi eta Big mu su qo pv ok) {n : Nat} (hn : n ≤ 4) {M : Nat → Nat → α} {R : Nat → Nat → Rat} {V : Rat} (hV : V = 0 ∨ vLow ≤ V) (hV2 : V ≤ vHigh) (he : eta ≤ eps * tiny) (hG : huge ≤ Big) (s : ∀ y, y < n → StepRow lo hi ok n y (M y) (R y) V) :
    ∀ (i : Nat) (g : Nat → α) (X : Nat → Rat), i ≤ n → (∀ j, i ≤ j → j < n → ok (g j) ∧ Nr lo hi (g j) (X j) (yS V (n - i) * wS (n - i)) ∧ bd (yS V (n - i)) (X j)) →
      ∃ g', substX mu su qo n M i g = some g' ∧ ∀ j, j < n → ok (g' j) ∧ ∃ x, Nr lo hi (g' j) x (yS V n * wS n)
  | 0, g, X, _, h => ⟨g, rfl, fun j hj => ⟨(h j (by omega) hj).1, X j, (h j (by omega) hj).2.1⟩⟩
  | i + 1, g, X, hin, h => by
    have e0 := eps_pos
    have e1 := eps_le
    have hV0 : 0 ≤ V := by rcases hV with h | h <;> (unfold vLow at *; grind)
    obtain ⟨w0, w1⟩ := wS_le (k := n - (i + 1)) (by omega)
    obtain ⟨y0, y1⟩ := yS_le (k := n - (i + 1)) (Y := V) (by omega) hV0
    have hnext : yS V (n - i) = 2 * yS V (n - (i + 1)) ∧ wS (n - i) = 3 / 2 * wS (n - (i + 1)) + 2300 * eps := by
      rw [show n - i = (n - (i + 1)) + 1 by omega]; exact ⟨rfl, rfl⟩
    obtain ⟨hn1, hn2⟩ := hnext
    generalize hY : yS V (n - (i + 1)) = Y at *
    generalize hw : wS (n - (i + 1)) = w at *
    have si := s i (by omega)
    have dl := si.low
    have dh := si.high
    have hY0 : 0 ≤ Y := by grind
    have hdl : 0 < dLow := by unfold dLow; grind
    have D0 : 0 < ab (R i i) := by grind
    have hD0 : 0 ≤ ab (R i i) * Y := Rat.mul_nonneg (by grind) hY0
    have hYS : ∀ c : Rat, 1 ≤ c → (c * Y = 0 ∨ eta ≤ eps * (c * Y)) := by
      intro c hc
      rcases hV with hv | hv
      · left
        have : Y = 0 := by grind
        rw [this]; grind
      · refine S_ok he ?_
        have := mul_le_r hY0 hc
        unfold tiny vLow at *; grind
    have hD1 : ab (R i i) * Y = 0 ∨ eta ≤ eps * (ab (R i i) * Y) := by
      rcases hV with hv | hv
      · left
        have : Y = 0 := by grind
        rw [this]; grind
      · refine S_ok he ?_
        have := mul_le_2 (a := dLow) (b := ab (R i i)) (x := vLow) (y := Y) (by grind) (by unfold vLow; grind) dl (by grind)
        unfold tiny dLow vLow at *; grind
    have hD2 : 4 * (ab (R i i) * Y) ≤ Big := by
      have := mul_le_2 (a := ab (R i i)) (b := dHigh) (x := Y) (y := 16 * vHigh) (by grind) hY0 dh (by grind)
      unfold huge dHigh vHigh at *; grind
    have og : ∀ j, i < j → j < n → ok (g j) := fun j a b => (h j (by omega) b).1
    have hg : ∀ j, i < j → j < n → Nr lo hi (g j) (X j) (Y * w) ∧ bd Y (X j) := fun j a b => (h j (by omega) b).2
    have dV := mul_le_l (Rat.le_of_lt D0) y0
    have dVe := mul_le_r (show 0 ≤ 336 * eps by grind) dV
    obtain ⟨b, hb, ob, nb, bb⟩ := restJ_near H hn si y0 w0 (by grind) og hg hD0 hD1 hD2 (n - 1 - i) 0 (M i n) (R i n) (by omega) (si.oks n (by omega) (by omega)) (si.rnear.le (by
      have : ((0 : Nat) : Rat) = 0 := rfl
      rw [this]; grind)) (bd_le si.rbd (by
      have : ((0 : Nat) : Rat) = 0 := rfl
      rw [this]; grind))
    simp only [Nat.add_zero, Nat.zero_add] at hb nb bb
    have hc3 : ((n - 1 - i : Nat) : Rat) ≤ 3 := by
      rcases (show n - 1 - i = 0 ∨ n - 1 - i = 1 ∨ n - 1 - i = 2 ∨ n - 1 - i = 3 by omega) with h | h | h | h <;> (rw [h]; grind)
    have hc0 : (0 : Rat) ≤ ((n - 1 - i : Nat) : Rat) := by
      rcases (show n - 1 - i = 0 ∨ n - 1 - i = 1 ∨ n - 1 - i = 2 ∨ n - 1 - i = 3 by omega) with h | h | h | h <;> (rw [h]; grind)
    have cw := mul_le_r (show 0 ≤ w / 2 + 400 * eps by grind) hc3
    generalize ((n - 1 - i : Nat) : Rat) = c at *
    generalize hA : R i n - sumR (n - 1 - i) (fun j => R i (i + 1 + j) * X (i + 1 + j)) = A at *
    have nb' : Nr lo hi b A (ab (R i i) * Y * (3 / 2 * w + 1536 * eps)) := nb.le (mul_le_l hD0 (by grind))
    have bb' : bd (ab (R i i) * Y * (7 / 4)) A := bd_le bb (mul_le_l hD0 (by grind))
    have hr0 : R i i ≠ 0 := by intro hc; rw [hc, ab_zero] at D0; grind
    have hQ : bd (7 / 4 * Y) (A / R i i) := by
      refine bd_over (h := ab (R i i)) D0 (y := R i i) (by rcases ab_cases (R i i) with ⟨_, e⟩ | ⟨_, e⟩ <;> grind) ?_
      rw [show A / R i i * R i i = A by grind]
      exact bd_le bb' (by grind)
    have p1 := mul_le_l (Rat.le_of_lt D0) (show 336 * eps ≤ 1 / 2 by grind)
    have yw := mul_le_l hY0 w1
    have ye := Rat.mul_nonneg hY0 (Rat.le_of_lt e0)
    have yw0 := Rat.mul_nonneg hY0 w0
    have yee := mul_le_l hY0 e1
    obtain ⟨_, c', hc', oc', nc'⟩ := nr_quo H (Q := 7 / 4 * Y) (g := Y * (3 * w + 4416 * eps)) (L := ab (R i i)) (S := 2 * Y) ob (si.oks i (by omega) (by omega)) nb' si.diag D0 (by rcases ab_cases (R i i) with ⟨_, e⟩ | ⟨_, e⟩ <;> grind) (by grind) hQ
      (by
        have := Rat.mul_nonneg hD0 (Rat.le_of_lt e0)
        rw [show ab (R i i) * Y * (3 / 2 * w + 1536 * eps) + 7 / 4 * Y * (ab (R i i) * (336 * eps)) = ab (R i i) * Y * (3 / 2 * w) + 2124 * (ab (R i i) * Y * eps) by grind, show Y * (3 * w + 4416 * eps) * (ab (R i i) / 2) = ab (R i i) * Y * (3 / 2 * w) + 2208 * (ab (R i i) * Y * eps) by grind]
        grind) (by grind) (hYS 2 (by grind)) (by unfold huge vHigh at *; grind)
    obtain ⟨g', k1, k2⟩ := substX_near H hn hV hV2 he hG s i (upd g i c') (fun j => if j = i then A / R i i else X j) (by omega) (fun j a b => by
      rw [hn1, hn2]
      by_cases hj : j = i
      · subst hj
        simp only [if_pos]
        rw [upd_same]
        exact ⟨oc', nc'.le (by grind), bd_le hQ (by grind)⟩
      · simp only [if_neg hj]
        rw [upd_ne hj]
        obtain ⟨q1, q2, q3⟩ := h j (by omega) b
        exact ⟨q1, q2.le (by grind), bd_le q3 (by grind)⟩)
    refine ⟨g', ?_, k2⟩
    show (restJ mu su (M i) g (n - 1 - i) (i + 1) (M i n)).bind _ = _
    rw [hb]
    show (qo b (M i i)).bind _ = _
    rw [hc']; exact k1

/-- A system of numbers with a heavy diagonal is answered, narrowly. -/
theorem solveX_near (H : Near lo hi eta Big mu su qo pv ok) {n : Nat} (hn : n ≤ 4) {M : Nat → Nat → α} {z : Nat → α} {R : Nat → Nat → Rat} {V : Rat} (hV : V = 0 ∨ 16 * vLow ≤ V) (hV2 : 16 * V ≤ vHigh) (he : eta ≤ eps * tiny) (hG : huge ≤ Big)
    (oks : ∀ i j, i < n → j ≤ n → ok (M i j)) (pts : ∀ i j, i < n → j ≤ n → lo (M i j) = R i j ∧ hi (M i j) = R i j) (low : ∀ i, i < n → 1 / 1073741824 ≤ ab (R i i)) (high : ∀ i, i < n → ab (R i i) ≤ 1073741824)
    (dom : ∀ i, i < n → sumR n (fun j => ab (R i j)) ≤ 5 / 4 * ab (R i i)) (rb : ∀ i, i < n → bd (ab (R i i) * V) (R i n)) :
    ∃ g, solveX mu su qo pv n M z = some g ∧ ∀ i, i < n → ok (g i) ∧ hi (g i) - lo (g i) ≤ V / 2147483648 := by
  have e0 := eps_pos
  have hV0 : 0 ≤ V := by rcases hV with h | h <;> (unfold vLow at *; grind)
  have z0 : ∀ a A, lo a = A → hi a = A → Nr lo hi a A 0 := by
    intro a A h1 h2
    constructor <;> (unfold bd; constructor <;> grind)
  have st : Stage lo hi ok n 0 M R (uS 0) (vS V 0) (lS 0) (hS 0) := by
    constructor
    · intro i j _ a _ b; exact oks i j a b
    · intro i _ a; exact low i a
    · intro i _ a; exact high i a
    · intro i _ a
      have := dom i a
      simpa using this
    · intro i j _ a _ b
      obtain ⟨h1, h2⟩ := pts i j a (by omega)
      exact (z0 _ _ h1 h2).le (by show 0 ≤ ab (R i i) * 0; grind)
    · intro i _ a
      obtain ⟨h1, h2⟩ := pts i n a (by omega)
      exact (z0 _ _ h1 h2).le (by show 0 ≤ ab (R i i) * vS V 0 * 0; grind)
    · intro i _ a; exact rb i a
  obtain ⟨M', R', h1, _, h3⟩ := elimX_near H hn hV hV2 he hG n 0 M R (by omega) st
  obtain ⟨g, h4, h5⟩ := substX_near H hn (M := M') (R := R') (V := 64 / 27 * V) (by rcases hV with h | h; (left; grind); (right; unfold vLow at *; grind)) (by unfold vHigh at *; grind) he hG (fun y hy => h3 y (by omega) hy) n z (fun _ => 0) (Nat.le_refl _) (fun j a b => by omega)
  refine ⟨g, ?_, fun i hin => ?_⟩
  · unfold solveX; rw [h1]; exact h4
  · obtain ⟨oi, x, hx⟩ := h5 i hin
    refine ⟨oi, ?_⟩
    have a1 := hx.1
    have a2 := hx.2
    obtain ⟨w0, w1⟩ := wS_le hn
    obtain ⟨y0, y1⟩ := yS_le (k := n) (Y := 64 / 27 * V) hn (by grind)
    have := mul_le_2 (a := yS (64 / 27 * V) n) (b := 16 * (64 / 27 * V)) (x := wS n) (y := 18688 * eps) (by grind) w0 y1 w1
    unfold bd at a1 a2
    unfold eps at *
    grind
end
end Go.Proofs.YtonhpkigoplmaaaGreatDoor
