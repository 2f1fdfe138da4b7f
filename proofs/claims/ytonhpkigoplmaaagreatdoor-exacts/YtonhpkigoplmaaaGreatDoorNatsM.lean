/-
  Natural numbers by their digits to the base 2^24, the lowest first: plain mathematics.
-/
import Derived.WalkKit
namespace Go.Proofs.YtonhpkigoplmaaaGreatDoor

def nval : List Nat → Nat
  | [] => 0
  | d :: r => d + 16777216 * nval r

def digF : Nat → Nat → List Nat
  | 0, _ => []
  | f + 1, n => if n = 0 then [] else n % 16777216 :: digF f (n / 16777216)

/-- The digits of a natural number. -/
def digits (n : Nat) : List Nat := digF n n

theorem digF_nval : ∀ f n, n ≤ f → nval (digF f n) = n
  | 0, n, h => by simp [digF, nval]; omega
  | f + 1, n, h => by
    unfold digF
    split
    · rename_i h0; simp [nval, h0]
    · simp only [nval]
      rw [digF_nval f (n / 16777216) (by omega)]
      omega

theorem nval_digits (n : Nat) : nval (digits n) = n := digF_nval n n (Nat.le_refl _)

theorem digF_lt : ∀ f n d, d ∈ digF f n → d < 16777216
  | 0, n, d, h => by simp [digF] at h
  | f + 1, n, d, h => by
    unfold digF at h
    split at h
    · simp at h
    · rcases List.mem_cons.1 h with rfl | h
      · omega
      · exact digF_lt f _ d h

theorem digits_lt (n d : Nat) (h : d ∈ digits n) : d < 16777216 := digF_lt n n d h

/-- No digit 0 at the end. -/
def Canon (l : List Nat) : Prop := l.getLast? ≠ some 0

theorem canon_nil : Canon [] := by simp [Canon]

theorem canon_tail {d : Nat} {r : List Nat} (hr : r ≠ []) (h : Canon (d :: r)) : Canon r := by
  unfold Canon at *
  cases r with
  | nil => exact absurd rfl hr
  | cons a t => simpa [List.getLast?_cons] using h

theorem nval_pos : ∀ l, l ≠ [] → Canon l → 0 < nval l
  | [], h, _ => absurd rfl h
  | [d], _, h => by
    simp [Canon] at h
    simp [nval]; omega
  | d :: e :: r, _, h => by
    have := nval_pos (e :: r) (by simp) (canon_tail (by simp) h)
    rw [nval]; omega

theorem digF_of : ∀ l f, (∀ d ∈ l, d < 16777216) → Canon l → nval l ≤ f → digF f (nval l) = l
  | [], f, _, _, _ => by cases f <;> simp [digF, nval]
  | d :: r, f, hd, hc, hf => by
    have hd0 : d < 16777216 := hd d (by simp)
    have hpos := nval_pos (d :: r) (by simp) hc
    have hn : nval (d :: r) = d + 16777216 * nval r := rfl
    cases f with
    | zero => omega
    | succ f =>
      unfold digF
      rw [if_neg (by omega)]
      have e1 : nval (d :: r) % 16777216 = d := by omega
      have e2 : nval (d :: r) / 16777216 = nval r := by omega
      rw [e1, e2]
      by_cases hr : r = []
      · subst hr
        simp only [nval]
        cases f <;> simp [digF]
      · rw [digF_of r f (fun x hx => hd x (by simp [hx])) (canon_tail hr hc) (by
          have := nval_pos r hr (canon_tail hr hc); omega)]

/-- Digits with none of them 0 at the end are the digits of their number. -/
theorem digits_of (l : List Nat) (hd : ∀ d ∈ l, d < 16777216) (hc : Canon l) : digits (nval l) = l := digF_of l _ hd hc (Nat.le_refl _)

theorem canon_digF : ∀ f n, n ≤ f → Canon (digF f n)
  | 0, n, _ => by simp [digF, Canon]
  | f + 1, n, h => by
    unfold digF
    split
    · exact canon_nil
    · rename_i h0
      by_cases hz : n / 16777216 = 0
      · rw [hz]
        have : digF f 0 = [] := by cases f <;> simp [digF]
        rw [this]
        simp [Canon]; omega
      · have hc := canon_digF f (n / 16777216) (by omega)
        have hne : digF f (n / 16777216) ≠ [] := fun e => by
          have := digF_nval f (n / 16777216) (by omega)
          rw [e] at this; simp [nval] at this; omega
        unfold Canon at *
        cases he : digF f (n / 16777216) with
        | nil => exact absurd he hne
        | cons a t => rw [he] at hc; simpa [List.getLast?_cons] using hc

theorem canon_digits (n : Nat) : Canon (digits n) := canon_digF n n (Nat.le_refl _)

theorem digits_zero : digits 0 = [] := rfl

theorem digits_nil_iff (n : Nat) : digits n = [] ↔ n = 0 := by
  constructor
  · intro h; have := nval_digits n; rw [h] at this; simpa [nval] using this.symm
  · rintro rfl; rfl

theorem nval_append : ∀ a b, nval (a ++ b) = nval a + 16777216 ^ a.length * nval b
  | [], b => by simp [nval]
  | d :: r, b => by
    simp only [List.cons_append, nval, nval_append r b, List.length_cons, Nat.pow_succ]
    rw [Nat.mul_add, Nat.mul_comm (16777216 ^ r.length) 16777216, Nat.mul_assoc]; omega

theorem nval_lt : ∀ l, (∀ d ∈ l, d < 16777216) → nval l < 16777216 ^ l.length
  | [], _ => by simp [nval]
  | d :: r, h => by
    have h1 := nval_lt r (fun x hx => h x (by simp [hx]))
    have h2 := h d (by simp)
    simp only [nval, List.length_cons, Nat.pow_succ]
    omega

theorem le_nval {l : List Nat} (hl : l ≠ []) (hc : Canon l) : 16777216 ^ (l.length - 1) ≤ nval l := by
  induction l with
  | nil => exact absurd rfl hl
  | cons d r ih =>
    by_cases hr : r = []
    · subst hr; have := nval_pos [d] (by simp) hc; show 1 ≤ nval [d]; omega
    · have h1 := ih hr (canon_tail hr hc)
      have hlen : r.length ≠ 0 := fun e => hr (List.length_eq_zero_iff.1 e)
      have e : (d :: r).length - 1 = (r.length - 1) + 1 := by simp; omega
      rw [e, Nat.pow_succ]
      simp only [nval]; omega

theorem len_of_lt {n k : Nat} (h : n < 16777216 ^ k) : (digits n).length ≤ k := by
  by_cases h0 : digits n = []
  · simp [h0]
  · have := le_nval h0 (canon_digits n)
    rw [nval_digits] at this
    have h2 : 16777216 ^ ((digits n).length - 1) < 16777216 ^ k := Nat.lt_of_le_of_lt this h
    have := (Nat.pow_lt_pow_iff_right (by decide : 1 < 16777216)).1 h2
    omega

theorem len_of_lt2 {n k : Nat} (h : n < 2 ^ k) : (digits n).length ≤ k / 24 + 1 := by
  apply len_of_lt
  have e : (16777216 : Nat) = 2 ^ 24 := rfl
  rw [e, ← Nat.pow_mul]
  exact Nat.lt_of_lt_of_le h (Nat.pow_le_pow_right (by decide) (by omega))

theorem lt_pow_len (n : Nat) : n < 16777216 ^ (digits n).length := by
  have := nval_lt (digits n) (digits_lt n)
  rwa [nval_digits] at this
end Go.Proofs.YtonhpkigoplmaaaGreatDoor
