/-
  With, OpM, RefD, RefE, OpQ, OpS, OpP, OpU, RefZ, OpC, EnclM, MidM, AddF.
-/
import Derived.Test.YtonhpkigoplmaaaGreatDoorF08
import Derived.Test.YtonhpkigoplmaaaGreatDoorF03
import Derived.Deep.DeepCutAuto
import Derived.Test.YtonhpkigoplmaaaGreatDoorF05
namespace Go.Proofs.YtonhpkigoplmaaaGreatDoor
open Go.RowKit Go.Extern Ieee
attribute [local go_sem] run_store_float

/-- An error by its number and its operation's name: none, one of the nine, or one of them in an *OpError. -/
def ErrIs (A : Nat → Addr) (w : World) (v : Value) (k : Nat) (s : ByteArray) : Prop :=
  (v = .nilIface ∧ k = 0 ∧ s = ⟨#[]⟩) ∨ (∃ j, j < 9 ∧ v = .iface 229 (.pointer (some (A j))) ∧ k = j + 1 ∧ s = ⟨#[]⟩) ∨
    (∃ j, j < 9 ∧ ∃ b, w.heap[b]? = some (.cells #[.string s, .iface 229 (.pointer (some (A j)))] 138 (0, 0)) ∧ v = .iface 136 (.pointer (some ⟨b, 0, none⟩)) ∧ k = j + 1)
theorem ErrIs.nil {A : Nat → Addr} {w : World} : ErrIs A w .nilIface 0 ⟨#[]⟩ := Or.inl ⟨rfl, rfl, rfl⟩
theorem ErrIs.one {A : Nat → Addr} {w : World} (k : Nat) (h : k < 9) : ErrIs A w (.iface 229 (.pointer (some (A k)))) (k + 1) ⟨#[]⟩ := Or.inr (Or.inl ⟨k, h, rfl, rfl, rfl⟩)
theorem ErrIs.op {A : Nat → Addr} {w : World} (k : Nat) (h : k < 9) (b : Nat) (s : ByteArray) (hb : w.heap[b]? = some (.cells #[.string s, .iface 229 (.pointer (some (A k)))] 138 (0, 0))) : ErrIs A w (.iface 136 (.pointer (some ⟨b, 0, none⟩))) (k + 1) s := Or.inr (Or.inr ⟨k, h, b, hb, rfl, rfl⟩)

theorem ErrIs.below {A : Nat → Addr} {w w' : World} {v : Value} {k : Nat} {s : ByteArray} (h : ErrIs A w v k s) (hb : Below w.heap.size w w') : ErrIs A w' v k s := by
  rcases h with ⟨rfl, rfl, rfl⟩ | ⟨k, h, rfl, rfl, rfl⟩ | ⟨k, h, b, hr, rfl, rfl⟩
  · exact .nil
  · exact .one k h
  · exact .op k h b s (by rw [hb.block _ (lt_of_row hr)]; exact hr)

theorem code_any (A : Nat → Addr) (v : Value) (k : Nat) (s : ByteArray) (w : World) (hS : Sents A w) (h : ErrIs A w v k s) :
    Calls Tryz.prog 49 #[v] w fun e w' => e = .returned (.tuple #[.int .i64 (k : Int), .string s]) ∧ Below w.heap.size w w' := by
  rcases h with ⟨rfl, rfl, rfl⟩ | ⟨k, h, rfl, rfl, rfl⟩ | ⟨k, h, b, hr, rfl, rfl⟩
  ·
    refine Calls.mono (code_nil w) ?_
    rintro e w' ⟨rfl, rfl⟩
    exact ⟨rfl, Below.refl _ _⟩
  · exact code_sent A w k h hS
  · exact code_op A w b k s h hS hr

/-- What an operation hands back: an interval's ends and an error. -/
def OpR (A : Nat → Addr) (w : World) (lo hi k : Nat) (s : ByteArray) (ev : Ending) (w' : World) : Prop :=
  ∃ v, ev = .returned (.tuple #[.agg #[.float .f64 lo, .float .f64 hi], v]) ∧ ErrIs A w' v k s ∧ Below w.heap.size w w'

/-- The name of an error's operation. -/
def opS (s : ByteArray) (k : Nat) : ByteArray := if k = 0 then ⟨#[]⟩ else s

theorem heap_drew_new (w : World) (s : ByteArray) (a : Addr) : ((w.alloc (Obj.cells #[.float .f64 0, .float .f64 0] 67)).alloc (Obj.cells #[.string s, .iface 229 (.pointer (some a))] 138)).drew.heap[w.heap.size + 1]? = some (.cells #[.string s, .iface 229 (.pointer (some a))] 138 (0, 0)) := by
  have := blk_new (w.alloc (Obj.cells #[.float .f64 0, .float .f64 0] 67)) (Obj.cells #[.string s, .iface 229 (.pointer (some a))] 138)
  rw [World.size_alloc] at this
  exact this

theorem within_any (A : Nat → Addr) (s : ByteArray) (lo hi : Nat) (p q : Int) (w : World) (hS : Sents A w) (hlo : FR lo p) (hhi : FR hi q) :
    Calls Tryz.prog 88 #[.string s, .float .f64 lo, .float .f64 hi] w fun ev w' => OpR A w (boxP p q).1 (boxP p q).2.1 (boxP p q).2.2 (opS s (boxP p q).2.2) ev w' := by
  have H1 : Hid (∀ w, Calls Tryz.prog 112 #[.float .f64 lo] w fun e w' => e = .returned (.bool (plP p)) ∧ w' = w) := by
    intro w
    rw [← hlo.plain]; exact isPlain_any lo w hlo.lt
  have H2 : Hid (∀ w, Calls Tryz.prog 112 #[.float .f64 hi] w fun e w' => e = .returned (.bool (plP q)) ∧ w' = w) := by
    intro w
    rw [← hhi.plain]; exact isPlain_any hi w hhi.lt
  have c2 : w.cell? ⟨5, 0, none⟩ = some (.iface 229 (.pointer (some (A 2)))) := hS.cell 2 (by omega)
  have hl2 := lt_of_cell c2
  cases hp : plP p
  · have e : Hid (boxP p q = (0, 0, 3)) := by show _ = _; unfold boxP; rw [if_neg (by rw [hp]; simp)]
    rw [hp] at H1
    clear hp hlo hhi hS
    go_enter Tryz.func88, Tryz.ntmps88
    go_wp2_with fail
    refine Calls.mono (H1.out _) ?_
    rintro e w' ⟨rfl, rfl⟩
    clear H1 H2
    go_wp2_with fail
    go_region
    go_wp2_with fail
    refine bodyPost_ret (v := .tuple #[.agg #[.float .f64 0, .float .f64 0], .iface 136 (.pointer (some ⟨w.heap.size + 1, 0, none⟩))]) (by simp [results, Tryz.results88, go_sem]) rfl ?_
    rw [e.out]
    refine ⟨_, rfl, .op 2 (by omega) _ s (heap_drew_new w s (A 2)), (((Below.refl _ _).alloc (Nat.le_refl _) _).alloc (by simp) _).drew⟩
  · rw [hp] at H1
    cases hq : plP q
    · have e : Hid (boxP p q = (0, 0, 3)) := by show _ = _; unfold boxP; rw [if_neg (by rw [hq]; simp)]
      rw [hq] at H2
      clear hp hq hlo hhi hS
      go_enter Tryz.func88, Tryz.ntmps88
      go_wp2_with fail
      refine Calls.mono (H1.out _) ?_
      rintro e w' ⟨rfl, rfl⟩
      go_wp2_with fail
      refine Calls.mono (H2.out _) ?_
      rintro e w' ⟨rfl, rfl⟩
      clear H1 H2
      go_wp2_with fail
      go_region
      go_wp2_with fail
      refine bodyPost_ret (v := .tuple #[.agg #[.float .f64 0, .float .f64 0], .iface 136 (.pointer (some ⟨w.heap.size + 1, 0, none⟩))]) (by simp [results, Tryz.results88, go_sem]) rfl ?_
      rw [e.out]
      refine ⟨_, rfl, .op 2 (by omega) _ s (heap_drew_new w s (A 2)), (((Below.refl _ _).alloc (Nat.le_refl _) _).alloc (by simp) _).drew⟩
    · have e : Hid (boxP p q = (lo, hi, 0)) := by show _ = _; unfold boxP; rw [if_pos ⟨hp, hq⟩, ← hlo.word hp, ← hhi.word hq]
      rw [hq] at H2
      clear hp hq hlo hhi hS
      go_enter Tryz.func88, Tryz.ntmps88
      go_wp2_with fail
      refine Calls.mono (H1.out _) ?_
      rintro e w' ⟨rfl, rfl⟩
      go_wp2_with fail
      refine Calls.mono (H2.out _) ?_
      rintro e w' ⟨rfl, rfl⟩
      clear H1 H2
      go_wp2_with fail
      refine bodyPost_ret (v := .tuple #[.agg #[.float .f64 lo, .float .f64 hi], .nilIface]) (by simp [results, Tryz.results88, go_sem]) rfl ?_
      rw [e.out]
      exact ⟨_, rfl, .nil, (Below.refl _ _).alloc (Nat.le_refl _) _⟩
end Go.Proofs.YtonhpkigoplmaaaGreatDoor
namespace Go.Proofs.YtonhpkigoplmaaaGreatDoor
open Go.RowKit Go.Extern Ieee

def negT (x : Bool × Nat × Int) : Bool × Nat × Int := (negS x.1 x.2.1, x.2.1, x.2.2)
def sumT (x y : Bool × Nat × Int) : Bool × Nat × Int := sumN x.1 x.2.1 x.2.2 y.1 y.2.1 y.2.2
def spanT (a b c d : Bool × Nat × Int) : Nat × Nat × Nat := aroundN (pick4 a b c d (ixLo (pick4 a b c d) 3)) (pick4 a b c d (ixHi (pick4 a b c d) 3))

/-- What encloseref.Op gives. -/
def refOpN (k : Int) (a1 a2 b1 b2 : Bool × Nat × Int) : Nat × Nat × Nat × ByteArray :=
  if k = 0 then ((aroundN (negT a2) (negT a1)).1, (aroundN (negT a2) (negT a1)).2.1, 0, ⟨#[]⟩)
  else if k = 1 then ((spanT a1 a2 b1 b2).1, (spanT a1 a2 b1 b2).2.1, 0, ⟨#[]⟩)
  else if k = 2 then ((meetT a1 a2 b1 b2).1, (meetT a1 a2 b1 b2).2.1, (meetT a1 a2 b1 b2).2.2, ⟨#[]⟩)
  else if k = 3 then nameT (aroundN (sumT a1 b1) (sumT a2 b2)) ⟨#[43]⟩
  else if k = 4 then nameT (aroundN (sumT a1 (negT b2)) (sumT a2 (negT b1))) ⟨#[45]⟩
  else if k = 5 then nameT (spanT (prodN a1 b1) (prodN a1 b2) (prodN a2 b1) (prodN a2 b2)) ⟨#[42]⟩
  else if k = 6 then (if holdsT b1 b2 = true then (0, 0, 4, ⟨#[47]⟩) else nameT (spanT (quoN a1 b1) (quoN a1 b2) (quoN a2 b1) (quoN a2 b2)) ⟨#[47]⟩)
  else if k = 7 then (if sgnI a1.1 a1.2.1 < 0 then (0, 0, 5, ⟨#[115, 113, 114, 116]⟩) else nameT (aroundN (rootN a1) (rootN a2)) ⟨#[115, 113, 114, 116]⟩)
  else ((aroundN a1 a2).1, (aroundN a1 a2).2.1, 0, ⟨#[]⟩)

theorem means_neg {e z : Int} {x : Bool × Nat × Int} (h : MeansT e z x) : MeansT e (-z) (negT x) := by
  obtain ⟨s, n, p⟩ := x
  intro c h1 h2
  have := h c h1 h2
  simp only at this
  show sg (negS s n) (n * 2 ^ (p - c).toNat) = _
  rw [Int.neg_mul, ← this]
  unfold negS sg
  by_cases h0 : n = 0
  · subst h0; simp
  · cases s <;> simp [h0]

theorem means_sgn {e z : Int} {x : Bool × Nat × Int} (h : MeansT e z x) : sgnI x.1 x.2.1 < 0 ↔ z < 0 := by
  obtain ⟨s, n, p⟩ := x
  have := h (min e p) (by simp only; omega) (by omega)
  simp only at this
  have hp1 := Nat.two_pow_pos (p - min e p).toNat
  have hp2 := Nat.two_pow_pos (e - min e p).toNat
  have hz : z < 0 ↔ sg s (n * 2 ^ (p - min e p).toNat) < 0 := by
    rw [this]
    constructor
    · intro hz; exact Int.mul_neg_of_neg_of_pos hz (by omega)
    · intro hz
      apply Decidable.byContradiction
      intro hc
      have := Int.mul_nonneg (show 0 ≤ z by omega) (Int.natCast_nonneg (2 ^ (e - min e p).toNat))
      omega
  rw [hz]
  unfold sgnI sg
  simp only
  by_cases h0 : n = 0
  · subst h0; simp
  · have : 0 < n * 2 ^ (p - min e p).toNat := Nat.mul_pos (Nat.pos_of_ne_zero h0) hp1
    rw [if_neg h0]
    generalize n * 2 ^ (p - min e p).toNat = N at *
    cases s
    · rw [if_neg Bool.false_ne_true, if_neg Bool.false_ne_true]; omega
    · rw [if_pos rfl, if_pos rfl]; omega

theorem means_low2 (x : Bool × Nat × Int) {e : Int} (h : e ≤ x.2.2) : MeansT e (sg x.1 (x.2.1 * 2 ^ (x.2.2 - e).toNat)) x := by
  obtain ⟨s, n, p⟩ := x
  intro c h1 h2
  simp only at *
  rw [sg_mul, Nat.mul_assoc, ← Nat.pow_add]
  congr 3
  omega

theorem lessT_means {e a b : Int} {x y : Bool × Nat × Int} (hx : MeansT e a x) (hy : MeansT e b y) : lessT x y = true ↔ a < b := by
  unfold lessT lessN
  rw [decide_eq_true_eq]
  have := sumN_means hx (means_neg hy)
  have h2 := means_sgn this
  rw [show a < b ↔ a + -b < 0 by omega]
  exact h2

theorem lessT_le (x y : Bool × Nat × Int) : (lessT x y = true → leV x y) ∧ (lessT x y = false → leV y x) := by
  have hx := means_low2 x (e := min x.2.2 y.2.2) (by omega)
  have hy := means_low2 y (e := min x.2.2 y.2.2) (by omega)
  have h := lessT_means hx hy
  constructor
  · intro ht; exact leV_means hx hy (by have := h.1 ht; omega)
  · intro hf
    refine leV_means hy hx ?_
    apply Decidable.byContradiction
    intro hc
    rw [h.2 (by omega)] at hf
    cases hf

theorem lessT_self (x : Bool × Nat × Int) : lessT x x = false := by
  have hx := means_low2 x (Int.le_refl _)
  cases h : lessT x x
  · rfl
  · have := (lessT_means hx hx).1 h; omega

theorem lo_step (x : Nat → Bool × Nat × Int) (i : Nat) : posV (x (ixLo x (i + 1))) (-1) = min (posV (x (ixLo x i)) (-1)) (posV (x (i + 1)) (-1)) := by
  show posV (x (if lessT (x (i + 1)) (x (ixLo x i)) = true then i + 1 else ixLo x i)) (-1) = _
  cases h : lessT (x (i + 1)) (x (ixLo x i))
  · rw [if_neg Bool.false_ne_true]
    have := posV_mono (-1) (Or.inl rfl) ((lessT_le _ _).2 h)
    omega
  · rw [if_pos rfl]
    have := posV_mono (-1) (Or.inl rfl) ((lessT_le _ _).1 h)
    omega

theorem hi_step (x : Nat → Bool × Nat × Int) (i : Nat) : posV (x (ixHi x (i + 1))) 1 = max (posV (x (ixHi x i)) 1) (posV (x (i + 1)) 1) := by
  show posV (x (if lessT (x (ixHi x i)) (x (i + 1)) = true then i + 1 else ixHi x i)) 1 = _
  cases h : lessT (x (ixHi x i)) (x (i + 1))
  · rw [if_neg Bool.false_ne_true]
    have := posV_mono 1 (Or.inr rfl) ((lessT_le _ _).2 h)
    omega
  · rw [if_pos rfl]
    have := posV_mono 1 (Or.inr rfl) ((lessT_le _ _).1 h)
    omega

theorem span_posV (a b c d : Bool × Nat × Int) : spanT a b c d = boxP (min (min (min (posV a (-1)) (posV b (-1))) (posV c (-1))) (posV d (-1))) (max (max (max (posV a 1) (posV b 1)) (posV c 1)) (posV d 1)) := by
  unfold spanT
  rw [aroundN_posV]
  have l2 := lo_step (pick4 a b c d) 2
  have l1 := lo_step (pick4 a b c d) 1
  have l0 := lo_step (pick4 a b c d) 0
  have g2 := hi_step (pick4 a b c d) 2
  have g1 := hi_step (pick4 a b c d) 1
  have g0 := hi_step (pick4 a b c d) 0
  have e0 : pick4 a b c d (ixLo (pick4 a b c d) 0) = a := rfl
  have f0 : pick4 a b c d (ixHi (pick4 a b c d) 0) = a := rfl
  rw [e0] at l0
  rw [f0] at g0
  rw [l0] at l1; rw [l1] at l2; rw [g0] at g1; rw [g1] at g2
  rw [l2, g2]
  rfl

theorem nameT_boxP (p q : Int) (s : ByteArray) : nameT (boxP p q) s = ((boxP p q).1, (boxP p q).2.1, (boxP p q).2.2, opS s (boxP p q).2.2) := by
  unfold nameT boxP opS
  split
  · rfl
  · rfl

/-- An interval's two words. -/
structure Iv (l h : Nat) : Prop where
  lt1 : l < 18446744073709551616
  lt2 : h < 18446744073709551616
  z1 : l ≠ 9223372036854775808
  z2 : h ≠ 9223372036854775808
  p1 : plainN l = some (plT l)
  p2 : plainN h = some (plT h)
  le : posF l ≤ posF h

theorem Iv.f1 {l h : Nat} (i : Iv l h) : FR l (posF l) := FR_plain i.lt1 i.z1 (by rw [i.p1]; rfl)
theorem Iv.f2 {l h : Nat} (i : Iv l h) : FR h (posF h) := FR_plain i.lt2 i.z2 (by rw [i.p2]; rfl)
theorem Iv.q1 {l h : Nat} (i : Iv l h) : plP (posF l) = true := by rw [← i.f1.plain, i.p1]; rfl
theorem Iv.q2 {l h : Nat} (i : Iv l h) : plP (posF h) = true := by rw [← i.f2.plain, i.p2]; rfl
theorem Iv.v1 {l h : Nat} (i : Iv l h) (way : Int) : posV (plT l) way = posF l := posV_plain i.lt1 i.p1 way
theorem Iv.v2 {l h : Nat} (i : Iv l h) (way : Int) : posV (plT h) way = posF h := posV_plain i.lt2 i.p2 way

theorem plT_some {b : Nat} (h : (plainN b).isSome = true) : plainN b = some (plT b) := by
  unfold plT
  cases hb : plainN b with
  | none => rw [hb] at h; cases h
  | some x => rfl

theorem plainN_posW (b : Nat) (hb : b < 18446744073709551616) : plainN (posW b) = plainN b := by
  unfold posW
  split
  · rename_i h
    have : b = 0 ∨ b = 9223372036854775808 := by omega
    rcases this with rfl | rfl <;> rfl
  · rfl

theorem posW_nz (b : Nat) : posW b ≠ 9223372036854775808 := by
  unfold posW
  split
  · decide
  · intro hc; subst hc; rename_i h; exact h rfl

theorem made_iv (lo hi : Nat) (h1 : lo < 18446744073709551616) (h2 : hi < 18446744073709551616) : Iv (makeN lo hi).1 (makeN lo hi).2.1 := by
  have z : Iv 0 0 := ⟨by omega, by omega, by omega, by omega, rfl, rfl, Int.le_refl _⟩
  unfold makeN
  split
  · exact z
  · rename_i hp
    split
    · exact z
    · rename_i hl
      have p1 : (plainN lo).isSome = true := by cases h : (plainN lo).isSome <;> simp_all
      have p2 : (plainN hi).isSome = true := by cases h : (plainN hi).isSome <;> simp_all
      have e1 : plT (posW lo) = plT lo := by unfold plT; rw [plainN_posW _ h1]
      have e2 : plT (posW hi) = plT hi := by unfold plT; rw [plainN_posW _ h2]
      have q1 : plainN (posW lo) = some (plT lo) := by rw [plainN_posW _ h1]; exact plT_some p1
      have q2 : plainN (posW hi) = some (plT hi) := by rw [plainN_posW _ h2]; exact plT_some p2
      refine ⟨posW_lt h1, posW_lt h2, posW_nz _, posW_nz _, by rw [e1]; exact q1, by rw [e2]; exact q2, ?_⟩
      rw [← posV_plain (posW_lt h1) q1 1, ← posV_plain (posW_lt h2) q2 1]
      refine posV_mono 1 (Or.inr rfl) ((lessT_le (plT hi) (plT lo)).2 ?_)
      cases hh : lessT (plT hi) (plT lo)
      · rfl
      · exact absurd hh hl

theorem boxP_plain {p q : Int} (h1 : plP p = true) (h2 : plP q = true) : boxP p q = (wdP p, wdP q, 0) := by
  unfold boxP; rw [if_pos ⟨h1, h2⟩]

theorem Iv.box {l h : Nat} (i : Iv l h) : boxP (posF l) (posF h) = (l, h, 0) := by
  rw [boxP_plain i.q1 i.q2, ← i.f1.word i.q1, ← i.f2.word i.q2]

/-- Less, by the places. -/
theorem lessT_pos {a b l h : Nat} (i : Iv l a) (j : Iv h b) : lessT (plT a) (plT b) = decide (posF a < posF b) := by
  cases hl : lessT (plT a) (plT b)
  · have := posV_mono 1 (Or.inr rfl) ((lessT_le _ _).2 hl)
    rw [i.v2, j.v2] at this
    rw [decide_eq_false (by omega)]
  · have := posV_mono 1 (Or.inr rfl) ((lessT_le _ _).1 hl)
    rw [i.v2, j.v2] at this
    rw [decide_eq_true]
    apply Decidable.byContradiction
    intro hc
    have he : posF a = posF b := by omega
    have : a = b := by
      rw [i.f2.word i.q2, j.f2.word j.q2, he]
    subst this
    rw [lessT_self] at hl
    cases hl

theorem Iv.low {l h : Nat} (i : Iv l h) : Iv l l := ⟨i.lt1, i.lt1, i.z1, i.z1, i.p1, i.p1, Int.le_refl _⟩
theorem Iv.high {l h : Nat} (i : Iv l h) : Iv h h := ⟨i.lt2, i.lt2, i.z2, i.z2, i.p2, i.p2, Int.le_refl _⟩

theorem kw_cases (d : Nat) : kw d = if 9223372036854775808 ≤ d then -((d % 9223372036854775808 : Nat) : Int) else ((d % 9223372036854775808 : Nat) : Int) := by
  unfold kw sg
  by_cases h : 9223372036854775808 ≤ d
  · rw [decide_eq_true h, if_pos rfl, if_pos h]
  · rw [decide_eq_false h, if_neg Bool.false_ne_true, if_neg h]

theorem negW_eq {b : Nat} (hb : b < 18446744073709551616) : negW b = if 9223372036854775808 ≤ b then b - 9223372036854775808 else b + 9223372036854775808 := by
  have := negW_wd (s := decide (9223372036854775808 ≤ b)) (R := b % 9223372036854775808) (by omega)
  rw [wd_self hb] at this
  rw [this]
  unfold wd
  by_cases h : 9223372036854775808 ≤ b
  · rw [decide_eq_true h, if_pos h]; simp; omega
  · rw [decide_eq_false h, if_neg h]; simp; omega

theorem plain_neg {b : Nat} {x : Bool × Nat × Int} (hb : b < 18446744073709551616) (h : plainN b = some x) : plainN (negW b) = some (negT x) := by
  have hn := negW_eq hb
  have e1 : negW b / 4503599627370496 % 2048 = b / 4503599627370496 % 2048 := by rw [hn]; split <;> omega
  have e2 : negW b % 4503599627370496 = b % 4503599627370496 := by rw [hn]; split <;> omega
  have e3 : negW b / 9223372036854775808 = 1 ↔ ¬ b / 9223372036854775808 = 1 := by rw [hn]; split <;> omega
  unfold plainN at h ⊢
  rw [e1, e2]
  split at h
  · rename_i h0
    rw [if_pos h0]
    cases h; rfl
  · rename_i h0
    rw [if_neg h0]
    split at h
    · cases h
    · rename_i h1
      rw [if_neg h1]
      cases h
      unfold negT negS
      simp only
      congr 2
      by_cases hd : b / 9223372036854775808 = 1
      · rw [decide_eq_true hd, decide_eq_false (fun hc => e3.1 hc hd)]; rfl
      · rw [decide_eq_false hd, decide_eq_true (e3.2 hd)]; simp

theorem negW_lt {b : Nat} (hb : b < 18446744073709551616) : negW b < 18446744073709551616 := by
  rw [negW_eq hb]; split <;> omega

/-- The sign, by the order. -/
theorem sgn_order {l h : Nat} (i : Iv l h) : ∃ o, FloatKind.f64.format.order l 0 = some o ∧ (o = .lt ↔ sgnI (plT l).1 (plT l).2.1 < 0) ∧ (o = .gt ↔ 0 < sgnI (plT l).1 (plT l).2.1) := by
  have ho : double.order l 0 = _ := order_kw i.f1 FR_zero
  refine ⟨_, ho, ?_⟩
  have k0 : kw 0 = 0 := rfl
  rw [k0, kw_cases]
  have hp := i.p1
  have h1 := i.lt1
  have h2 := i.z1
  generalize plT l = x at *
  unfold plainN at hp
  split at hp
  · rename_i h0
    have : l = 0 := by omega
    subst this
    cases hp
    decide
  · rename_i h0
    split at hp
    · cases hp
    · cases hp
      unfold sgnI
      simp only
      rw [if_neg (show ¬ l % 4503599627370496 + 4503599627370496 = 0 by omega)]
      by_cases hd : 9223372036854775808 ≤ l
      · rw [if_pos hd, decide_eq_true (show l / 9223372036854775808 = 1 by omega)]
        have : compare (-((l % 9223372036854775808 : Nat) : Int)) 0 = .lt := Int.compare_eq_lt.2 (by omega)
        rw [this]; simp
      · rw [if_neg hd, decide_eq_false (show ¬ l / 9223372036854775808 = 1 by omega)]
        have : compare ((l % 9223372036854775808 : Nat) : Int) 0 = .gt := Int.compare_eq_gt.2 (by omega)
        rw [this]; simp

end Go.Proofs.YtonhpkigoplmaaaGreatDoor
namespace Go.Proofs.YtonhpkigoplmaaaGreatDoor
open Go.RowKit

end Go.Proofs.YtonhpkigoplmaaaGreatDoor
namespace Go.Proofs.YtonhpkigoplmaaaGreatDoor
open Go.RowKit

/-- What Made gives. -/
def MadeG (args : Array Value) (x y : Bool × Nat × Int) : Prop := ∀ W : World, Calls Tryz.prog 60 args W fun e w' => ∃ ao la ca bo lb cb, e = .returned (.agg #[.bool x.1, .slice ao la ca, .int .i64 x.2.2, .bool y.1, .slice bo lb cb, .int .i64 y.2.2]) ∧ la = (digits x.2.1).length ∧ lb = (digits y.2.1).length ∧ NatV w' (.slice ao la ca) x.2.1 ∧ NatV w' (.slice bo lb cb) y.2.1 ∧ Below W.heap.size W w'

theorem made_gives (lo hi : Nat) (h1 : lo < 18446744073709551616) (h2 : hi < 18446744073709551616) : MadeG #[.agg #[.int .u64 (lo : Int), .int .u64 (hi : Int)]] (plT (makeN lo hi).1) (plT (makeN lo hi).2.1) := by
  intro W
  refine (refMade_any lo hi W h1 h2).mono ?_
  rintro e w' h
  obtain ⟨v, rfl, ⟨ao, la, ca, bo, lb, cb, rfl, hla, hlb, hna, hnb⟩, hb⟩ := h
  exact ⟨ao, la, ca, bo, lb, cb, rfl, hla, hlb, hna, hnb, hb⟩
end Go.Proofs.YtonhpkigoplmaaaGreatDoor
namespace Go.Proofs.YtonhpkigoplmaaaGreatDoor
open Go.RowKit

end Go.Proofs.YtonhpkigoplmaaaGreatDoor
namespace Go.Proofs.YtonhpkigoplmaaaGreatDoor
open Go.RowKit

end Go.Proofs.YtonhpkigoplmaaaGreatDoor
namespace Go.Proofs.YtonhpkigoplmaaaGreatDoor
open Go.RowKit

end Go.Proofs.YtonhpkigoplmaaaGreatDoor
namespace Go.Proofs.YtonhpkigoplmaaaGreatDoor
open Go.RowKit

end Go.Proofs.YtonhpkigoplmaaaGreatDoor
namespace Go.Proofs.YtonhpkigoplmaaaGreatDoor
open Go.RowKit

end Go.Proofs.YtonhpkigoplmaaaGreatDoor
namespace Go.Proofs.YtonhpkigoplmaaaGreatDoor
open Go.RowKit Go.Extern Ieee

/-- A number of few digits. -/
structure Sm (x : Bool × Nat × Int) : Prop where
  b : bl x.2.1 ≤ 10000
  l : -10000 ≤ x.2.2
  u : x.2.2 ≤ 10000

theorem Sm.small {x : Bool × Nat × Int} (h : Sm x) : Small x := ⟨by have := h.b; omega, by have := h.l; omega, by have := h.u; omega⟩
theorem Sm.len {x : Bool × Nat × Int} (h : Sm x) : (digits x.2.1).length ≤ 1000 := by have := len_of_bl x.2.1; have := h.b; omega
theorem Sm.both {x : Bool × Nat × Int} (h : Sm x) : Small x ∧ (digits x.2.1).length ≤ 400000 := ⟨h.small, by have := h.len; omega⟩

/-- What is known of a plain float's number. -/
structure Pl (x : Bool × Nat × Int) : Prop where
  n : x.2.1 < 9007199254740992
  l : -952 ≤ x.2.2
  u : x.2.2 ≤ 848

theorem pl_of {b : Nat} {x : Bool × Nat × Int} (h : plainN b = some x) : Pl x := by
  rcases plain_num h with h | ⟨h1, h2, h3, h4⟩
  · subst h; exact ⟨by decide, by decide, by decide⟩
  · exact ⟨h2, h3, h4⟩

theorem Pl.bits {x : Bool × Nat × Int} (h : Pl x) : bl x.2.1 ≤ 53 := bl_le (by rw [p53]; exact h.n)
theorem Pl.sm {x : Bool × Nat × Int} (h : Pl x) : Sm x := ⟨by have := h.bits; omega, by have := h.l; omega, by have := h.u; omega⟩
/-- The sign, by the place. -/
theorem sgn_pos (x : Bool × Nat × Int) (way : Int) : (sgnI x.1 x.2.1 < 0 ↔ posV x way < 0) ∧ (0 < sgnI x.1 x.2.1 ↔ 0 < posV x way) ∧ (x.2.1 = 0 ↔ posV x way = 0) := by
  obtain ⟨s, n, e⟩ := x
  have c := clampR_bounds (endR s n e way)
  unfold sgnI posV
  simp only
  by_cases h0 : n = 0
  · rw [if_pos h0, if_pos h0]; simp [h0]
  · rw [if_neg h0, if_neg h0]
    unfold sgI
    cases s
    · rw [if_neg Bool.false_ne_true, if_neg Bool.false_ne_true]; omega
    · rw [if_pos rfl, if_pos rfl]; omega

theorem iv_ne {l h : Nat} (i : Iv l h) (hz : holdsT (plT l) (plT h) = false) : (plT l).2.1 ≠ 0 ∧ (plT h).2.1 ≠ 0 := by
  have a := sgn_pos (plT l) 1
  have b := sgn_pos (plT h) 1
  rw [i.v1 1] at a
  rw [i.v2 1] at b
  have hl := i.le
  unfold holdsT at hz
  rw [Bool.and_eq_false_iff, decide_eq_false_iff_not, decide_eq_false_iff_not] at hz
  constructor
  · intro h0; have := a.2.2.1 h0; omega
  · intro h0; have := b.2.2.1 h0; omega

end Go.Proofs.YtonhpkigoplmaaaGreatDoor
namespace Go.Proofs.YtonhpkigoplmaaaGreatDoor
open Go.RowKit Go.Extern Ieee

/-- The number of a word in the range of plain floats. -/
theorem plT_wd (s : Bool) {r : Nat} (h1 : 553942754166571008 ≤ r) (h2 : r ≤ 8660422083433463808) : plainN (wd s r) = some (s, r % 4503599627370496 + 4503599627370496, ((r / 4503599627370496 : Nat) : Int) - 1075) := by
  have e1 : wd s r % 4503599627370496 = r % 4503599627370496 := by unfold wd; split <;> omega
  have e2 : wd s r / 4503599627370496 % 2048 = r / 4503599627370496 := by unfold wd; split <;> omega
  have e3 : decide (wd s r / 9223372036854775808 = 1) = s := by
    unfold wd
    cases s
    · rw [if_neg Bool.false_ne_true]; exact decide_eq_false (by omega)
    · rw [if_pos rfl]; exact decide_eq_true (by omega)
  unfold plainN
  rw [e1, e2, e3, if_neg (by omega), if_neg (by omega)]

theorem means_high {s : Bool} {m k : Nat} {E : Int} : MeansT E (sg s (m * 2 ^ k)) (s, m, E + k) := by
  intro c h1 h2
  simp only at *
  rw [sg_mul, Nat.mul_assoc, ← Nat.pow_add]
  congr 3
  omega

theorem word_low (s : Bool) {n : Nat} {e : Int} (h0 : n ≠ 0) (h1 : 553942754166571008 ≤ rung n e) (h2 : rung n e ≤ 8660422083433463808) : MeansT (e + bl n - 53) (sg s (mf n)) (plT (wd s (rung n e).toNat)) := by
  have hb := mf_bounds (Nat.pos_of_ne_zero h0)
  have hp := plT_wd s (r := (rung n e).toNat) (by omega) (by omega)
  have e1 : (rung n e).toNat % 4503599627370496 + 4503599627370496 = mf n := by unfold rung at *; omega
  have e2 : (((rung n e).toNat / 4503599627370496 : Nat) : Int) - 1075 = e + bl n - 53 := by unfold rung at *; omega
  have : plT (wd s (rung n e).toNat) = (s, mf n, e + bl n - 53) := by unfold plT; rw [hp, e1, e2]; rfl
  rw [this]
  have := means_high (s := s) (m := mf n) (k := 0) (E := e + bl n - 53)
  simpa using this

theorem word_up (s : Bool) {n : Nat} {e : Int} (h0 : n ≠ 0) (h1 : 553942754166571008 ≤ rung n e + 1) (h2 : rung n e + 1 ≤ 8660422083433463808) : MeansT (e + bl n - 53) (sg s (mf n + 1)) (plT (wd s (rung n e + 1).toNat)) := by
  have hb := mf_bounds (Nat.pos_of_ne_zero h0)
  have hp := plT_wd s (r := (rung n e + 1).toNat) (by omega) (by omega)
  by_cases hc : mf n + 1 < 9007199254740992
  · have e1 : (rung n e + 1).toNat % 4503599627370496 + 4503599627370496 = mf n + 1 := by unfold rung at *; omega
    have e2 : (((rung n e + 1).toNat / 4503599627370496 : Nat) : Int) - 1075 = e + bl n - 53 := by unfold rung at *; omega
    have : plT (wd s (rung n e + 1).toNat) = (s, mf n + 1, e + bl n - 53) := by unfold plT; rw [hp, e1, e2]; rfl
    rw [this]
    have := means_high (s := s) (m := mf n + 1) (k := 0) (E := e + bl n - 53)
    simpa using this
  · have e1 : (rung n e + 1).toNat % 4503599627370496 + 4503599627370496 = 4503599627370496 := by unfold rung at *; omega
    have e2 : (((rung n e + 1).toNat / 4503599627370496 : Nat) : Int) - 1075 = e + bl n - 53 + (1 : Nat) := by unfold rung at *; omega
    have : plT (wd s (rung n e + 1).toNat) = (s, 4503599627370496, e + bl n - 53 + (1 : Nat)) := by unfold plT; rw [hp, e1, e2]; rfl
    rw [this]
    have := means_high (s := s) (m := 4503599627370496) (k := 1) (E := e + bl n - 53)
    rwa [show 4503599627370496 * 2 ^ 1 = mf n + 1 by omega] at this

/-- The mantissa's bounds. -/
theorem mf_cut (n : Nat) (e c : Int) (_h0 : n ≠ 0) (h1 : c ≤ e) (h2 : c ≤ e + bl n - 53) : mf n * 2 ^ (e + bl n - 53 - c).toNat ≤ n * 2 ^ (e - c).toNat ∧ n * 2 ^ (e - c).toNat ≤ (mf n + if inex n then 1 else 0) * 2 ^ (e + bl n - 53 - c).toNat := by
  by_cases hb : bl n ≤ 53
  · have hm : mf n = n * 2 ^ (53 - bl n) := by unfold mf; rw [if_pos hb]
    have hi : inex n = false := inex_small hb
    have : mf n * 2 ^ (e + bl n - 53 - c).toNat = n * 2 ^ (e - c).toNat := by
      rw [hm, Nat.mul_assoc, ← Nat.pow_add]; congr 2; omega
    rw [hi]
    simp only [Bool.false_eq_true, if_false, Nat.add_zero]
    omega
  · have hm : mf n = n / 2 ^ (bl n - 53) := by unfold mf; rw [if_neg hb]
    have hx : inex n = decide (n % 2 ^ (bl n - 53) ≠ 0) := by unfold inex; simp [show 53 < bl n by omega]
    have hp : 2 ^ (e + bl n - 53 - c).toNat = 2 ^ (bl n - 53) * 2 ^ (e - c).toNat := by rw [← Nat.pow_add]; congr 1; omega
    have hd := Nat.div_add_mod n (2 ^ (bl n - 53))
    have hl := Nat.mod_lt n (Nat.two_pow_pos (bl n - 53))
    rw [hp, ← Nat.mul_assoc, ← Nat.mul_assoc]
    rw [hm, hx]
    constructor
    · apply Nat.mul_le_mul_right
      rw [Nat.mul_comm]; omega
    · apply Nat.mul_le_mul_right
      by_cases hz : n % 2 ^ (bl n - 53) = 0
      · rw [decide_eq_false (by omega)]
        simp only [Bool.false_eq_true, if_false, Nat.add_zero]
        rw [Nat.mul_comm]; omega
      · rw [decide_eq_true hz, if_pos rfl, Nat.add_mul, Nat.one_mul, Nat.mul_comm (n / _)]; omega

theorem wdP_sg (s : Bool) {r : Int} (h : 0 < r) : wdP (sgI s r) = wd s r.toNat := by
  unfold wdP sgI
  cases s
  · rw [if_neg Bool.false_ne_true, decide_eq_false (by omega)]; congr 1; omega
  · rw [if_pos rfl, decide_eq_true (by omega)]; congr 1; omega

theorem plP_sg (s : Bool) {r : Int} (h : plP (sgI s (clampR r)) = true) : 553942754166571008 ≤ r ∧ r ≤ 8660422083433463808 ∧ clampR r = r := by
  unfold plP at h
  rw [decide_eq_true_eq] at h
  have hc := clampR_cases r
  have ha : ((sgI s (clampR r)).natAbs : Int) = clampR r := by
    have := clampR_bounds r
    unfold sgI; cases s
    · rw [if_neg Bool.false_ne_true]; omega
    · rw [if_pos rfl]; omega
  have hz : sgI s (clampR r) ≠ 0 := by
    have := clampR_bounds r
    omega
  omega

theorem plT_zero : plT 0 = (false, 0, 0) := rfl
theorem wdP_zero : wdP 0 = 0 := rfl

theorem means_zero2 {x : Bool × Nat × Int} (h : x.2.1 = 0) (e : Int) : MeansT e 0 x := by
  obtain ⟨s, n, p⟩ := x
  simp only at h
  subst h
  exact means_zero e s p

theorem means_down {e z : Int} {x : Bool × Nat × Int} (h : MeansT e z x) {c : Int} (hc : c ≤ e) : MeansT c (z * ((2 ^ (e - c).toNat : Nat) : Int)) x := by
  have := means_low (s := x.1) (m := x.2.1) (p := x.2.2) h (e - c).toNat
  rwa [show e - ((e - c).toNat : Nat) = c by omega] at this

/-- What stands at a number's lower place is not above it. -/
theorem encl_low {x : Bool × Nat × Int} (h : plP (posV x (-1)) = true) : leV (plT (wdP (posV x (-1)))) x := by
  by_cases h0 : x.2.1 = 0
  · have : posV x (-1) = 0 := by unfold posV; rw [if_pos h0]
    rw [this, wdP_zero, plT_zero]
    exact leV_means (means_zero2 rfl 0) (means_zero2 h0 0) (Int.le_refl _)
  · have hp : posV x (-1) = sgI x.1 (clampR (endR x.1 x.2.1 x.2.2 (-1))) := by unfold posV; rw [if_neg h0]
    rw [hp] at h ⊢
    obtain ⟨a, b, c⟩ := plP_sg x.1 h
    rw [c, wdP_sg x.1 (by omega)]
    obtain ⟨s, n, e⟩ := x
    simp only at *
    have hc := mf_cut n e (min e (e + bl n - 53)) h0 (by omega) (by omega)
    have hx := means_low2 (s, n, e) (e := min e (e + bl n - 53)) (by simp only; omega)
    simp only at hx
    have hend : endR s n e (-1) = rung n e + if s && inex n then 1 else 0 := by unfold endR; rw [offS_down]
    rw [hend] at a b ⊢
    by_cases hs : (s && inex n) = true
    · rw [hs, if_pos rfl] at a b ⊢
      rw [Bool.and_eq_true] at hs
      obtain ⟨rfl, hi⟩ := hs
      have hw := means_down (word_up true h0 a b) (c := min e (e + bl n - 53)) (by omega)
      refine leV_means hw hx ?_
      rw [hi, if_pos rfl] at hc
      rw [sg_mul]
      have := hc.2
      unfold sg; rw [if_pos rfl, if_pos rfl]; omega
    · have hs' : (s && inex n) = false := by cases h : (s && inex n) <;> simp_all
      rw [hs', if_neg Bool.false_ne_true, Int.add_zero] at a b ⊢
      have hw := means_down (word_low s h0 a b) (c := min e (e + bl n - 53)) (by omega)
      refine leV_means hw hx ?_
      rw [sg_mul]
      cases s
      · have := hc.1
        unfold sg; rw [if_neg Bool.false_ne_true, if_neg Bool.false_ne_true]; omega
      · have hi : inex n = false := by simpa using hs'
        rw [hi] at hc
        simp only [Bool.false_eq_true, if_false, Nat.add_zero] at hc
        have := hc.2
        unfold sg; rw [if_pos rfl, if_pos rfl]; omega

/-- What stands at a number's upper place is not below it. -/
theorem encl_high {x : Bool × Nat × Int} (h : plP (posV x 1) = true) : leV x (plT (wdP (posV x 1))) := by
  by_cases h0 : x.2.1 = 0
  · have : posV x 1 = 0 := by unfold posV; rw [if_pos h0]
    rw [this, wdP_zero, plT_zero]
    exact leV_means (means_zero2 h0 0) (means_zero2 rfl 0) (Int.le_refl _)
  · have hp : posV x 1 = sgI x.1 (clampR (endR x.1 x.2.1 x.2.2 1)) := by unfold posV; rw [if_neg h0]
    rw [hp] at h ⊢
    obtain ⟨a, b, c⟩ := plP_sg x.1 h
    rw [c, wdP_sg x.1 (by omega)]
    obtain ⟨s, n, e⟩ := x
    simp only at *
    have hc := mf_cut n e (min e (e + bl n - 53)) h0 (by omega) (by omega)
    have hx := means_low2 (s, n, e) (e := min e (e + bl n - 53)) (by simp only; omega)
    simp only at hx
    have hend : endR s n e 1 = rung n e + if (!s) && inex n then 1 else 0 := by unfold endR; rw [offS_up]
    rw [hend] at a b ⊢
    by_cases hs : ((!s) && inex n) = true
    · rw [hs, if_pos rfl] at a b ⊢
      rw [Bool.and_eq_true] at hs
      obtain ⟨hs1, hi⟩ := hs
      have hs2 : s = false := by cases s <;> simp_all
      subst hs2
      have hw := means_down (word_up false h0 a b) (c := min e (e + bl n - 53)) (by omega)
      refine leV_means hx hw ?_
      rw [hi, if_pos rfl] at hc
      rw [sg_mul]
      have := hc.2
      unfold sg; rw [if_neg Bool.false_ne_true, if_neg Bool.false_ne_true]; omega
    · have hs' : ((!s) && inex n) = false := by cases h : ((!s) && inex n) <;> simp_all
      rw [hs', if_neg Bool.false_ne_true, Int.add_zero] at a b ⊢
      have hw := means_down (word_low s h0 a b) (c := min e (e + bl n - 53)) (by omega)
      refine leV_means hx hw ?_
      rw [sg_mul]
      cases s
      · have hi : inex n = false := by simpa using hs'
        rw [hi] at hc
        simp only [Bool.false_eq_true, if_false, Nat.add_zero] at hc
        have := hc.2
        unfold sg; rw [if_neg Bool.false_ne_true, if_neg Bool.false_ne_true]; omega
      · have := hc.1
        unfold sg; rw [if_pos rfl, if_pos rfl]; omega

/-- Numbers that are not above each other mean the same. -/
theorem means_anti {e z : Int} {x y : Bool × Nat × Int} (hx : MeansT e z x) (h1 : leV x y) (h2 : leV y x) : MeansT e z y := by
  have key : ∀ c, c ≤ x.2.2 → c ≤ y.2.2 → sg x.1 (x.2.1 * 2 ^ (x.2.2 - c).toNat) = sg y.1 (y.2.1 * 2 ^ (y.2.2 - c).toNat) := by
    intro c a b
    have p1 : ∀ u v : Bool × Nat × Int, c ≤ u.2.2 → c ≤ v.2.2 → leV u v → sg u.1 (u.2.1 * 2 ^ (u.2.2 - c).toNat) ≤ sg v.1 (v.2.1 * 2 ^ (v.2.2 - c).toNat) := by
      intro u v hu hv h
      unfold leV lvA lvB at h
      have hm := Int.mul_le_mul_of_nonneg_right h (Int.natCast_nonneg (2 ^ (min u.2.2 v.2.2 - c).toNat))
      rw [sg_mul, sg_mul, Nat.mul_assoc, Nat.mul_assoc, ← Nat.pow_add, ← Nat.pow_add] at hm
      rwa [show (u.2.2 - min u.2.2 v.2.2).toNat + (min u.2.2 v.2.2 - c).toNat = (u.2.2 - c).toNat by omega, show (v.2.2 - min u.2.2 v.2.2).toNat + (min u.2.2 v.2.2 - c).toNat = (v.2.2 - c).toNat by omega] at hm
    exact Int.le_antisymm (p1 x y a b h1) (p1 y x b a h2)
  refine means_of (min (min x.2.2 y.2.2) e) (by omega) (by omega) ?_
  rw [← key _ (by omega) (by omega)]
  exact hx _ (by omega) (by omega)
end Go.Proofs.YtonhpkigoplmaaaGreatDoor
namespace Go.Proofs.YtonhpkigoplmaaaGreatDoor
open Go.RowKit Go.Extern Ieee

theorem q1_two (n : Nat) : q1 n 4503599627370496 = n * 2 ^ 3 := by
  unfold q1
  have e : n * 2 ^ 54 = n * 4 * 4503599627370496 := by omega
  rw [e, Nat.mul_div_cancel _ (by decide), Nat.mul_mod_left, if_pos rfl]
  omega

theorem half_fd {b : Nat} {x : Bool × Nat × Int} (hb : b < 18446744073709551616) (hz : b ≠ 9223372036854775808) (h : plainN b = some x) : double.div b 4611686018427387904 = some (fd (-954) (vp x)) := by
  obtain ⟨s, n, e⟩ := x
  have hpn := plain_num h
  rcases plain_read hb h with ⟨rfl, rfl, hz2, _⟩ | ⟨hn, hr⟩
  · have h0 : b = 0 := by omega
    subst h0
    have : s = false := by
      have := h
      unfold plainN at this
      simp at this
      exact this
    subst this
    rw [vp_zero, fd_zero]
    rfl
  · have hnn : n ≠ 0 := by omega
    rcases hpn with hc | ⟨n1, n2, e1, e2⟩
    · cases hc; omega
    · simp only at n1 n2 e1 e2
      have r2 : double.read 4611686018427387904 = .number false 4503599627370496 (-51) := rfl
      rw [div_plain hr r2 n1 n2 (by decide) (by decide), q1_two, Bool.xor_false]
      congr 1
      have hbl : bl n = 53 := bl53 n1 n2
      have hnu : nup n = false := nup_rep (inex_small (by omega))
      have hv : vp (s, n, e) ≠ 0 := by
        unfold vp
        exact (sg_sign (Nat.mul_ne_zero hnn (Nat.pos_iff_ne_zero.1 (Nat.two_pow_pos _)))).2.2
      have hva : (vp (s, n, e)).natAbs = n * 2 ^ (e + 953).toNat := (Plnum.vp_abs (Or.inr ⟨n1, n2, e1, e2⟩))
      have hsg : decide (vp (s, n, e) < 0) = s := by
        unfold vp
        exact (sg_sign (Nat.mul_ne_zero hnn (Nat.pos_iff_ne_zero.1 (Nat.two_pow_pos _)))).1
      have hbl2 : bl (n * 2 ^ (e + 953).toNat) = 53 + (e + 953).toNat := by rw [bl_shift hnn, hbl]
      rw [fd_wd hv ⟨by omega, by rw [hva, hbl2]; omega⟩, hva, hsg, nup_shift hnn, hnu, rung_shift hnn]
      have hb8 : bl (n * 2 ^ 3) = 56 := by rw [bl_shift hnn, hbl]
      rw [nearest_rung s (Nat.mul_ne_zero hnn (by decide)) (by rw [hb8]; omega) (by rw [hb8]; omega), nup_shift hnn, hnu, rung_shift hnn]
      unfold wd
      congr 2
      congr 1
      congr 1
      omega

/-- The middle's word. -/
def midW (l h : Nat) : Nat := fd (-954) (vp (plT l) + vp (plT h))

theorem mid_fits {x : Bool × Nat × Int} (h : Plnum x) : Fits (-954) (vp x) := by
  have := bl_le h.lt
  have h1 := plM_eq
  have h2 := plN_eq
  exact ⟨by omega, by omega⟩

theorem mid_add {l h : Nat} (i : Iv l h) : double.add (fd (-954) (vp (plT l))) (fd (-954) (vp (plT h))) = some (midW l h) := by
  have p1 := plain_num i.p1
  have p2 := plain_num i.p2
  have h1 := plM_eq
  have h2 := plN_eq
  have l1 := p1.lt
  have l2 := p2.lt
  refine add_fd (mid_fits p1) (mid_fits p2) p1.rep p2.rep ⟨by omega, ?_⟩
  have : bl (vp (plT l) + vp (plT h)).natAbs ≤ plM + 1 := bl_le (by rw [Nat.pow_succ]; omega)
  omega

set_option maxRecDepth 100000 in
theorem middle_walk (l h a b m : Nat) (w : World) (h1 : double.div l 4611686018427387904 = some a) (h2 : double.div h 4611686018427387904 = some b) (h3 : double.add a b = some m) :
    Calls Tryz.prog 152 #[.agg #[.float .f64 l, .float .f64 h]] w fun e w' => e = .returned (.float .f64 m) ∧ Below w.heap.size w w' := by
  have g1 : ∀ w, (binOp .quo 65 (.float .f64 l) (.float .f64 4611686018427387904)).run Tryz.prog w = .ok (.float .f64 a) w := fun w => run_float_arith w .quo _ .f64 l 4611686018427387904 a h1
  have g2 : ∀ w, (binOp .quo 65 (.float .f64 h) (.float .f64 4611686018427387904)).run Tryz.prog w = .ok (.float .f64 b) w := fun w => run_float_arith w .quo _ .f64 h 4611686018427387904 b h2
  have g3 : ∀ w, (binOp .add 65 (.float .f64 a) (.float .f64 b)).run Tryz.prog w = .ok (.float .f64 m) w := fun w => run_float_arith w .add _ .f64 a b m h3
  clear h1 h2 h3
  go_enter Tryz.func152, Tryz.ntmps152
  go_wp2
  go_ret
  exact ⟨rfl, (Below.refl _ _).alloc (Nat.le_refl _) _⟩

theorem middle_any {l h : Nat} (i : Iv l h) (w : World) :
    Calls Tryz.prog 152 #[.agg #[.float .f64 l, .float .f64 h]] w fun e w' => e = .returned (.float .f64 (midW l h)) ∧ Below w.heap.size w w' :=
  middle_walk l h _ _ _ w (half_fd i.lt1 i.z1 i.p1) (half_fd i.lt2 i.z2 i.p2) (mid_add i)

/-- What the document's middle is: the sum, halved, to the nearest. -/
def midT (l h : Nat) : Nat × Bool := zround (sumT (plT l) (plT h)).1 (sumT (plT l) (plT h)).2.1 ((sumT (plT l) (plT h)).2.2 - 1)

theorem means_half {e z : Int} {x : Bool × Nat × Int} (h : MeansT e z x) : MeansT (e - 1) z (x.1, x.2.1, x.2.2 - 1) := by
  intro c h1 h2
  have := h (c + 1) (by simp only at h1; omega) (by omega)
  simp only
  rw [show x.2.2 - 1 - c = x.2.2 - (c + 1) by omega, show e - 1 - c = e - (c + 1) by omega]
  exact this

/-- By its meaning: the rung and whether the nearest is up. -/
theorem zround_means {e z : Int} {x : Bool × Nat × Int} (h : MeansT e z x) (hz : z ≠ 0) : zround x.1 x.2.1 x.2.2 = rngW (decide (z < 0)) (rung z.natAbs e + if nup z.natAbs then 1 else 0) := by
  obtain ⟨s, n, p⟩ := x
  have hm := h (min e p) (by simp only; omega) (by omega)
  simp only at hm ⊢
  have hp1 := Nat.two_pow_pos (p - min e p).toNat
  have hp2 := Nat.two_pow_pos (e - min e p).toNat
  have ha := congrArg Int.natAbs hm
  rw [Int.natAbs_mul, Int.natAbs_natCast, show (sg s (n * 2 ^ (p - min e p).toNat)).natAbs = n * 2 ^ (p - min e p).toNat by unfold sg; split <;> omega] at ha
  have hzn : z.natAbs ≠ 0 := by omega
  have hn : n ≠ 0 := by
    rintro rfl
    rw [Nat.zero_mul] at ha
    rcases Nat.mul_eq_zero.1 ha.symm with h | h <;> omega
  have hs : s = decide (z < 0) := by
    have h1 := sg_sign (s := s) (Nat.mul_ne_zero hn (Nat.pos_iff_ne_zero.1 hp1))
    rw [← h1.1, hm]
    apply decide_eq_decide.2
    constructor
    · intro h
      apply Decidable.byContradiction
      intro hc
      have := Int.mul_nonneg (show 0 ≤ z by omega) (Int.natCast_nonneg (2 ^ (e - min e p).toNat))
      omega
    · intro h; exact Int.mul_neg_of_neg_of_pos h (by omega)
  have r1 : rung n p = rung z.natAbs e := by
    have a1 := rung_shift hn (p - min e p).toNat (min e p)
    have a2 := rung_shift hzn (e - min e p).toNat (min e p)
    rw [ha, a2] at a1
    rw [show min e p + ((p - min e p).toNat : Int) = p by omega, show min e p + ((e - min e p).toNat : Int) = e by omega] at a1
    exact a1.symm
  have r2 : nup n = nup z.natAbs := by
    have a1 := nup_shift hn (p - min e p).toNat
    have a2 := nup_shift hzn (e - min e p).toNat
    rw [ha, a2] at a1
    exact a1.symm
  rw [zround_rung s p hn, r1, r2, hs]

/-- The two middles: the document's is there if and only if the program's is a plain float, and then they are one. -/
theorem mid_same {l h : Nat} (i : Iv l h) : (plainN (midW l h)).isSome = (midT l h).2 ∧ ((midT l h).2 = true → midW l h = (midT l h).1 ∧ FR (midW l h) (posF (midW l h))) := by
  have p1 := plain_num i.p1
  have p2 := plain_num i.p2
  have hm := means_half (sumN_means p1.means p2.means)
  have hm' : MeansT (-954) (vp (plT l) + vp (plT h)) ((sumT (plT l) (plT h)).1, (sumT (plT l) (plT h)).2.1, (sumT (plT l) (plT h)).2.2 - 1) := hm
  by_cases hz : vp (plT l) + vp (plT h) = 0
  · have hn : (sumT (plT l) (plT h)).2.1 = 0 := by
      rw [hz] at hm'
      have := hm' (min (-954) ((sumT (plT l) (plT h)).2.2 - 1)) (by simp only; omega) (by omega)
      simp only [Int.zero_mul] at this
      have hp := Nat.two_pow_pos ((sumT (plT l) (plT h)).2.2 - 1 - min (-954) ((sumT (plT l) (plT h)).2.2 - 1)).toNat
      have hx : (sumT (plT l) (plT h)).2.1 * 2 ^ ((sumT (plT l) (plT h)).2.2 - 1 - min (-954) ((sumT (plT l) (plT h)).2.2 - 1)).toNat = 0 := by
        unfold sg at this
        split at this <;> omega
      rcases Nat.mul_eq_zero.1 hx with h | h
      · exact h
      · omega
    have e1 : midW l h = 0 := by unfold midW; rw [hz, fd_zero]
    have e2 : midT l h = (0, true) := by unfold midT zround; rw [hn, if_pos rfl]
    rw [e1, e2]
    exact ⟨rfl, fun _ => ⟨rfl, FR_zero⟩⟩
  · have hzr : midT l h = _ := zround_means hm' hz
    have hf : Fits (-954) (vp (plT l) + vp (plT h)) := by
      have h1 := plM_eq
      have h2 := plN_eq
      have l1 := p1.lt
      have l2 := p2.lt
      have : bl (vp (plT l) + vp (plT h)).natAbs ≤ plM + 1 := bl_le (by rw [Nat.pow_succ]; omega)
      exact ⟨by omega, by omega⟩
    have hw : midW l h = _ := fd_wd hz hf
    have hn : (vp (plT l) + vp (plT h)).natAbs ≠ 0 := by omega
    have rb := rung_bounds (-954) hn
    have hbl := bl_pos (n := (vp (plT l) + vp (plT h)).natAbs) (by omega)
    have hf2 := hf.2
    generalize decide (vp (plT l) + vp (plT h) < 0) = s at *
    have hr : ∃ r : Int, (rung (vp (plT l) + vp (plT h)).natAbs (-954) + if nup (vp (plT l) + vp (plT h)).natAbs then 1 else 0) = r ∧ 0 < r ∧ r ≤ 9218868437227405312 := ⟨_, rfl, by split <;> omega, by split <;> omega⟩
    obtain ⟨r, er, r1, r2⟩ := hr
    rw [er] at hzr hw
    rw [hzr, hw]
    have hnz : wd s r.toNat ≠ 9223372036854775808 := by unfold wd; split <;> omega
    have hlt : wd s r.toNat < 18446744073709551616 := wd_lt (by omega)
    have hmod : wd s r.toNat % 9223372036854775808 = r.toNat := by unfold wd; split <;> omega
    have hfr : FR (wd s r.toNat) (posF (wd s r.toNat)) := ⟨hlt, hnz, by omega, rfl⟩
    unfold rngW
    by_cases hin : 553942754166571008 ≤ r ∧ r ≤ 8660422083433463808
    · rw [if_pos hin]
      refine ⟨?_, fun _ => ⟨?_, hfr⟩⟩
      · rw [plT_wd s (by omega) (by omega)]; rfl
      · unfold wd; rfl
    · rw [if_neg hin]
      refine ⟨?_, fun h => by cases h⟩
      rw [hfr.plain]
      have hp0 : wd s r.toNat % 9223372036854775808 ≠ 0 := by omega
      have ha := posF_abs (wd s r.toNat) hp0
      rw [hmod] at ha
      have hc := clampR_cases ((r.toNat : Nat) : Int)
      unfold plP
      apply decide_eq_false
      omega
end Go.Proofs.YtonhpkigoplmaaaGreatDoor
namespace Go.Proofs.YtonhpkigoplmaaaGreatDoor
open Go.RowKit Go.Extern Ieee
attribute [local go_sem] run_store_float

theorem ErrIs.set {A : Nat → Addr} {w : World} {v : Value} {k : Nat} {s : ByteArray} {g j : Nat} {u : Value} {t : TypeId} (h : ErrIs A w v k s) (hg : BoxT w g t) (ht : t ≠ 138) : ErrIs A (w.setCell ⟨g, j, none⟩ u) v k s := by
  rcases h with ⟨rfl, rfl, rfl⟩ | ⟨k, h, rfl, rfl, rfl⟩ | ⟨k, h, b, hr, rfl, rfl⟩
  · exact .nil
  · exact .one k h
  ·
    refine .op k h b s ?_
    obtain ⟨vs, fz, hg⟩ := hg
    have : b ≠ g := by
      rintro rfl
      rw [hr] at hg
      simp only [Option.some.injEq, Obj.cells.injEq] at hg
      exact ht hg.2.1.symm
    rw [Below.heap_setCell _ _ _ _ (by exact this)]; exact hr

theorem c_fld0 (x y : Nat) (w : World) : (Instr.field 130 (.agg #[.float .f64 x, .float .f64 y]) 0).run Tryz.prog w = .ok (.float .f64 x) w := by kernel_rfl
theorem c_fld1 (x y : Nat) (w : World) : (Instr.field 130 (.agg #[.float .f64 x, .float .f64 y]) 1).run Tryz.prog w = .ok (.float .f64 y) w := by kernel_rfl

set_option maxRecDepth 100000 in
set_option maxHeartbeats 4000000 in
theorem addF_any (A : Nat → Addr) (al ah bl bh d1 u1 d2 u2 : Nat) (p q : Int) (w : World) (hS : Sents A w) (h1 : Gives 89 #[.float .f64 al, .float .f64 bl] d1 u1) (h2 : Gives 89 #[.float .f64 ah, .float .f64 bh] d2 u2) (hp : FR d1 p) (hq : FR u2 q) :
    Calls Tryz.prog 44 #[.agg #[.float .f64 al, .float .f64 ah], .agg #[.float .f64 bl, .float .f64 bh]] w fun ev w' => OpR A w (boxP p q).1 (boxP p q).2.1 (boxP p q).2.2 (opS ⟨#[43]⟩ (boxP p q).2.2) ev w' := by
  have H1 : Hid (∀ w, Calls Tryz.prog 89 #[.float .f64 al, .float .f64 bl] w fun ev w' => ev = .returned (.agg #[.float .f64 d1, .float .f64 u1]) ∧ Below w.heap.size w w') := h1
  have H2 : Hid (∀ w, Calls Tryz.prog 89 #[.float .f64 ah, .float .f64 bh] w fun ev w' => ev = .returned (.agg #[.float .f64 d2, .float .f64 u2]) ∧ Below w.heap.size w w') := h2
  have HS : Hid (Sents A w) := hS
  have HI : Hid (∀ w, Sents A w → Calls Tryz.prog 88 #[.string ⟨#[43]⟩, .float .f64 d1, .float .f64 u2] w fun ev w' => OpR A w (boxP p q).1 (boxP p q).2.1 (boxP p q).2.2 (opS ⟨#[43]⟩ (boxP p q).2.2) ev w') := fun w hS => within_any A _ _ _ p q w hS hp hq
  generalize opS ⟨#[43]⟩ (boxP p q).2.2 = sr at *
  generalize boxP p q = r at *
  obtain ⟨r1, r2, r3⟩ := r
  simp only at HI ⊢
  have f0 := c_fld0
  have f1 := c_fld1
  clear h1 h2 hS hp hq
  go_enter Tryz.func44, Tryz.ntmps44
  go_wp2_with fail
  have B0 := blk_old (blk_old (blk_new w (Obj.cells #[.float .f64 al, .float .f64 ah] 67)) (Obj.cells #[.float .f64 bl, .float .f64 bh] 67)) (Obj.cells #[.float .f64 0, .float .f64 0] 67)
  have B1 := blk_old (blk_new (w.alloc (Obj.cells #[.float .f64 al, .float .f64 ah] 67)) (Obj.cells #[.float .f64 bl, .float .f64 bh] 67)) (Obj.cells #[.float .f64 0, .float .f64 0] 67)
  have B2 := blk_new ((w.alloc (Obj.cells #[.float .f64 al, .float .f64 ah] 67)).alloc (Obj.cells #[.float .f64 bl, .float .f64 bh] 67)) (Obj.cells #[.float .f64 0, .float .f64 0] 67)
  have hW : Below w.heap.size w (((w.alloc (Obj.cells #[.float .f64 al, .float .f64 ah] 67)).alloc (Obj.cells #[.float .f64 bl, .float .f64 bh] 67)).alloc (Obj.cells #[.float .f64 0, .float .f64 0] 67)) := (((Below.refl _ _).alloc (Nat.le_refl _) _).alloc (by simp) _).alloc (by simp; omega) _
  simp only [World.size_alloc] at B1 B2
  generalize (((w.alloc (Obj.cells #[.float .f64 al, .float .f64 ah] 67)).alloc (Obj.cells #[.float .f64 bl, .float .f64 bh] 67)).alloc (Obj.cells #[.float .f64 0, .float .f64 0] 67)) = W2 at *
  have HB0 : Hid (W2.drew.heap[w.heap.size]? = _) := B0
  have HB1 : Hid (W2.drew.heap[w.heap.size + 1]? = _) := B1
  have HB2 : Hid (W2.drew.heap[w.heap.size + 1 + 1]? = _) := B2
  have HW : Hid (Below w.heap.size w W2.drew) := hW.drew
  obtain ⟨a0, a1, -, -⟩ := blk2 B0
  obtain ⟨b0, b1, -, -⟩ := blk2 B1
  clear B0 B1 B2 hW
  go_region_held3 (fun W => W.cell? ⟨w.heap.size, 0, none⟩ = some (.float .f64 al) ∧ W.cell? ⟨w.heap.size, 1, none⟩ = some (.float .f64 ah) ∧ W.cell? ⟨w.heap.size + 1, 0, none⟩ = some (.float .f64 bl) ∧ W.cell? ⟨w.heap.size + 1, 1, none⟩ = some (.float .f64 bh)) (first | (go_keep; done) | (refine ⟨?_, ?_, ?_, ?_⟩ <;> first | (go_keep; done) | (rw [cell_set_ne (by omega), cell_set_ne (by omega)]; assumption) | assumption))
    (first
      | (go_at_call 89; with_reducible (refine Calls.mono (H1.out _) ?_); rintro e w3 ⟨rfl, hb3⟩
         have HB3 : Hid (Below _ _ w3) := hb3
         obtain ⟨a0, a1, -, -⟩ := blk2 (blk_below HB0.out hb3)
         obtain ⟨b0, b1, -, -⟩ := blk2 (blk_below HB1.out hb3)
         clear hb3)
      | (go_at_call 89; with_reducible (refine Calls.mono (H2.out _) ?_); rintro e w4 ⟨rfl, hb4⟩
         have HB4 : Hid (Below _ _ w4) := hb4
         obtain ⟨a0, a1, -, -⟩ := blk2 (blk_below (blk_below HB0.out HB3.out) hb4)
         obtain ⟨b0, b1, -, -⟩ := blk2 (blk_below (blk_below HB1.out HB3.out) hb4)
         clear hb4)
      | (go_at_call 88
         have HX : Hid (Below w.heap.size w w4) := (HW.out.trans (HB3.out.mono HW.out.size)).trans (HB4.out.mono (Nat.le_trans HW.out.size HB3.out.size))
         refine Calls.mono (HI.out _ (HS.out.below HX.out (Nat.le_refl _))) ?_
         rintro e w5 ⟨v, rfl, hE, hb5⟩
         have HE : Hid (ErrIs A w5 v _ _) := hE
         have HB5 : Hid (Below _ _ w5) := hb5
         obtain ⟨a0, a1, -, -⟩ := blk2 (blk_below (blk_below (blk_below HB0.out HB3.out) HB4.out) hb5)
         obtain ⟨b0, b1, -, -⟩ := blk2 (blk_below (blk_below (blk_below HB1.out HB3.out) HB4.out) hb5)
         obtain ⟨k0, k1, k2, k3⟩ := blk2 (blk_below (blk_below (blk_below HB2.out HB3.out) HB4.out) hb5)
         clear hE hb5))
  go_wp2_with fail
  have hBX : BoxT w5 (w.heap.size + 1 + 1) 67 := BoxT.of (blk_below (blk_below (blk_below HB2.out HB3.out) HB4.out) HB5.out)
  refine bodyPost_ret (v := .tuple #[.agg #[.float .f64 r1, .float .f64 r2], v]) (by simp [results, Tryz.results44, go_sem, k0, k1]) rfl ?_
  exact ⟨v, rfl, (HE.out.set hBX (by decide)).set hBX.set (by decide), ((HX.out.trans (HB5.out.mono HX.out.size)).setCell (by simp; omega) _).setCell (by simp; omega) _⟩

set_option maxRecDepth 100000 in
set_option maxHeartbeats 4000000 in
theorem diffsF_any (al ah bl bh d1 u1 d2 u2 : Nat) (w : World) (h1 : Gives 89 #[.float .f64 al, .float .f64 (negW bh)] d1 u1) (h2 : Gives 89 #[.float .f64 ah, .float .f64 (negW bl)] d2 u2) :
    Calls Tryz.prog 90 #[.agg #[.float .f64 al, .float .f64 ah], .agg #[.float .f64 bl, .float .f64 bh]] w fun ev w' => ev = .returned (.tuple #[.float .f64 d1, .float .f64 u2]) ∧ Below w.heap.size w w' := by
  have H1 : Hid (∀ w, Calls Tryz.prog 89 #[.float .f64 al, .float .f64 (negW bh)] w fun ev w' => ev = .returned (.agg #[.float .f64 d1, .float .f64 u1]) ∧ Below w.heap.size w w') := h1
  have H2 : Hid (∀ w, Calls Tryz.prog 89 #[.float .f64 ah, .float .f64 (negW bl)] w fun ev w' => ev = .returned (.agg #[.float .f64 d2, .float .f64 u2]) ∧ Below w.heap.size w w') := h2
  have n0 : ∀ w, (Op.unary .neg (.float .f64 bl)).run Tryz.prog w = .ok (.float .f64 (negW bl)) w := fun w => run_neg_float w _
  have n1 : ∀ w, (Op.unary .neg (.float .f64 bh)).run Tryz.prog w = .ok (.float .f64 (negW bh)) w := fun w => run_neg_float w _
  have f0 := c_fld0
  have f1 := c_fld1
  clear h1 h2
  generalize negW bl = nl at *
  generalize negW bh = nh at *
  go_enter Tryz.func90, Tryz.ntmps90
  go_wp2_with fail
  have B0 := blk_old (blk_new w (Obj.cells #[.float .f64 al, .float .f64 ah] 67)) (Obj.cells #[.float .f64 bl, .float .f64 bh] 67)
  have B1 := blk_new (w.alloc (Obj.cells #[.float .f64 al, .float .f64 ah] 67)) (Obj.cells #[.float .f64 bl, .float .f64 bh] 67)
  have hW : Below w.heap.size w ((w.alloc (Obj.cells #[.float .f64 al, .float .f64 ah] 67)).alloc (Obj.cells #[.float .f64 bl, .float .f64 bh] 67)) := ((Below.refl _ _).alloc (Nat.le_refl _) _).alloc (by simp) _
  simp only [World.size_alloc] at B1
  generalize ((w.alloc (Obj.cells #[.float .f64 al, .float .f64 ah] 67)).alloc (Obj.cells #[.float .f64 bl, .float .f64 bh] 67)) = W2 at *
  have HB0 : Hid (W2.drew.heap[w.heap.size]? = _) := B0
  have HB1 : Hid (W2.drew.heap[w.heap.size + 1]? = _) := B1
  have HW : Hid (Below w.heap.size w W2.drew) := hW.drew
  obtain ⟨a0, a1, -, -⟩ := blk2 B0
  obtain ⟨b0, b1, -, -⟩ := blk2 B1
  clear B0 B1 hW
  go_region_held3 (fun W => W.cell? ⟨w.heap.size, 0, none⟩ = some (.float .f64 al) ∧ W.cell? ⟨w.heap.size, 1, none⟩ = some (.float .f64 ah) ∧ W.cell? ⟨w.heap.size + 1, 0, none⟩ = some (.float .f64 bl) ∧ W.cell? ⟨w.heap.size + 1, 1, none⟩ = some (.float .f64 bh)) (first | (go_keep; done) | (refine ⟨?_, ?_, ?_, ?_⟩ <;> first | (go_keep; done) | (rw [cell_set_ne (by omega), cell_set_ne (by omega)]; assumption) | assumption))
    (first
      | (go_at_call 89; with_reducible (refine Calls.mono (H1.out _) ?_); rintro e w3 ⟨rfl, hb3⟩
         have HB3 : Hid (Below _ _ w3) := hb3
         obtain ⟨a0, a1, -, -⟩ := blk2 (blk_below HB0.out hb3)
         obtain ⟨b0, b1, -, -⟩ := blk2 (blk_below HB1.out hb3)
         clear hb3)
      | (go_at_call 89; with_reducible (refine Calls.mono (H2.out _) ?_); rintro e w4 ⟨rfl, hb4⟩
         have HB4 : Hid (Below _ _ w4) := hb4
         obtain ⟨a0, a1, -, -⟩ := blk2 (blk_below (blk_below HB0.out HB3.out) hb4)
         obtain ⟨b0, b1, -, -⟩ := blk2 (blk_below (blk_below HB1.out HB3.out) hb4)
         clear hb4))
  have hX : Below w.heap.size w w4 := (HW.out.trans (HB3.out.mono HW.out.size)).trans (HB4.out.mono (Nat.le_trans HW.out.size HB3.out.size))
  go_wp2_with fail
  refine bodyPost_ret (v := .tuple #[.float .f64 d1, .float .f64 u2]) (by simp [results, Tryz.results90, go_sem]) rfl ?_
  exact ⟨rfl, hX⟩

set_option maxRecDepth 100000 in
set_option maxHeartbeats 4000000 in
theorem subF_any (A : Nat → Addr) (al ah bl bh d1 u1 d2 u2 : Nat) (p q : Int) (w : World) (hS : Sents A w) (h1 : Gives 89 #[.float .f64 al, .float .f64 (negW bh)] d1 u1) (h2 : Gives 89 #[.float .f64 ah, .float .f64 (negW bl)] d2 u2) (hp : FR d1 p) (hq : FR u2 q) :
    Calls Tryz.prog 45 #[.agg #[.float .f64 al, .float .f64 ah], .agg #[.float .f64 bl, .float .f64 bh]] w fun ev w' => OpR A w (boxP p q).1 (boxP p q).2.1 (boxP p q).2.2 (opS ⟨#[45]⟩ (boxP p q).2.2) ev w' := by
  have HD : Hid (∀ w, Calls Tryz.prog 90 #[.agg #[.float .f64 al, .float .f64 ah], .agg #[.float .f64 bl, .float .f64 bh]] w fun ev w' => ev = .returned (.tuple #[.float .f64 d1, .float .f64 u2]) ∧ Below w.heap.size w w') := fun w => diffsF_any al ah bl bh d1 u1 d2 u2 w h1 h2
  have HS : Hid (Sents A w) := hS
  have HI : Hid (∀ w, Sents A w → Calls Tryz.prog 88 #[.string ⟨#[45]⟩, .float .f64 d1, .float .f64 u2] w fun ev w' => OpR A w (boxP p q).1 (boxP p q).2.1 (boxP p q).2.2 (opS ⟨#[45]⟩ (boxP p q).2.2) ev w') := fun w hS => within_any A _ _ _ p q w hS hp hq
  generalize opS ⟨#[45]⟩ (boxP p q).2.2 = sr at *
  generalize boxP p q = r at *
  obtain ⟨r1, r2, r3⟩ := r
  simp only at HI ⊢
  clear h1 h2 hS hp hq
  go_enter Tryz.func45, Tryz.ntmps45
  go_wp2_with fail
  have B2 := blk_new ((w.alloc (Obj.cells #[.float .f64 al, .float .f64 ah] 67)).alloc (Obj.cells #[.float .f64 bl, .float .f64 bh] 67)) (Obj.cells #[.float .f64 0, .float .f64 0] 67)
  have hW : Below w.heap.size w (((w.alloc (Obj.cells #[.float .f64 al, .float .f64 ah] 67)).alloc (Obj.cells #[.float .f64 bl, .float .f64 bh] 67)).alloc (Obj.cells #[.float .f64 0, .float .f64 0] 67)) := (((Below.refl _ _).alloc (Nat.le_refl _) _).alloc (by simp) _).alloc (by simp; omega) _
  simp only [World.size_alloc] at B2
  generalize (((w.alloc (Obj.cells #[.float .f64 al, .float .f64 ah] 67)).alloc (Obj.cells #[.float .f64 bl, .float .f64 bh] 67)).alloc (Obj.cells #[.float .f64 0, .float .f64 0] 67)) = W2 at *
  refine Calls.mono (HD.out _) ?_
  rintro e w8 ⟨rfl, hb8⟩
  have hW8 : Below w.heap.size w w8 := hW.trans (hb8.mono hW.size)
  have B28 : w8.heap[w.heap.size + 1 + 1]? = _ := blk_below B2 hb8
  clear hW B2 hb8 HD
  go_wp2_with fail
  refine Calls.mono (HI.out _ (HS.out.below hW8 (Nat.le_refl _))) ?_
  rintro e w9 ⟨v, rfl, hE, hb9⟩
  have HE : Hid (ErrIs A w9 v _ _) := hE
  have HB9 : Hid (Below w.heap.size w w9) := hW8.trans (hb9.mono hW8.size)
  have HK9 : Hid (w9.heap[w.heap.size + 1 + 1]? = _) := blk_below B28 hb9
  obtain ⟨k0, k1, k2, k3⟩ := blk2 HK9.out
  clear hE hb9 hW8 B28 HI HS
  go_wp2_with fail
  have hBX : BoxT w9 (w.heap.size + 1 + 1) 67 := BoxT.of HK9.out
  refine bodyPost_ret (v := .tuple #[.agg #[.float .f64 r1, .float .f64 r2], v]) (by simp [results, Tryz.results45, go_sem, k0, k1]) rfl ?_
  exact ⟨v, rfl, (HE.out.set hBX (by decide)).set hBX.set (by decide), (HB9.out.setCell (by simp; omega) _).setCell (by simp; omega) _⟩
end Go.Proofs.YtonhpkigoplmaaaGreatDoor
