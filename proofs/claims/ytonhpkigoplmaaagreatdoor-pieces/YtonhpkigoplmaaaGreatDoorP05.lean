/-
  NumG, FltC, RefM, NumH, NumI, RndM, FltD, FltE.
-/
import Derived.Test.YtonhpkigoplmaaaGreatDoorP04
import Derived.Test.YtonhpkigoplmaaaGreatDoorP03
import Derived.Deep.RegionHeld3
namespace Go.Proofs.YtonhpkigoplmaaaGreatDoor
open Go.RowKit

/-- 53 bits of a number, and by how many it was shifted; up: what is left counts as one more. -/
def mant (n : Nat) (up : Bool) : Nat × Int :=
  if bl n ≤ 53 then (n * 2 ^ (53 - bl n), (bl n : Int) - 53)
  else if up = true ∧ n % 2 ^ (bl n - 53) ≠ 0 then
    (if n / 2 ^ (bl n - 53) + 1 = 9007199254740992 then (4503599627370496, (bl n : Int) - 52) else (n / 2 ^ (bl n - 53) + 1, (bl n : Int) - 53))
  else (n / 2 ^ (bl n - 53), (bl n : Int) - 53)

/-- Does this way go off 0? -/
def offS (s : Bool) (way : Int) : Bool := decide (0 < way) && !s || decide (way < 0) && s

/-- What Round gives. -/
def roundN (s : Bool) (n : Nat) (e way : Int) : Nat × Bool :=
  if n = 0 then (0, true) else packN s (mant n (offS s way)).1 (e + (mant n (offS s way)).2)

theorem bl_pos {n : Nat} (h : 0 < n) : 0 < bl n := (bl_bounds h).2.2

theorem bl_eq_zero {n : Nat} : bl n = 0 ↔ n = 0 := by
  constructor
  · intro h
    rcases Nat.eq_zero_or_pos n with h0 | h0
    · exact h0
    · have := bl_pos h0; omega
  · rintro rfl; rfl

theorem bl_of {n k : Nat} (h1 : 2 ^ (k - 1) ≤ n) (h2 : n < 2 ^ k) (hk : 0 < k) : bl n = k := by
  obtain ⟨j, rfl⟩ : ∃ j, k = j + 1 := ⟨k - 1, by omega⟩
  exact bl_unique (by simpa using h1) h2

theorem p52 : (2 : Nat) ^ 52 = 4503599627370496 := rfl
theorem p53 : (2 : Nat) ^ 53 = 9007199254740992 := rfl

/-- A short number, shifted. -/
theorem short_bounds {n : Nat} (h0 : 0 < n) (h : bl n ≤ 53) : 4503599627370496 ≤ n * 2 ^ (53 - bl n) ∧ n * 2 ^ (53 - bl n) < 9007199254740992 := by
  obtain ⟨b1, b2, b3⟩ := bl_bounds h0
  have e1 : (2 : Nat) ^ (bl n - 1) * 2 ^ (53 - bl n) = 4503599627370496 := by rw [← Nat.pow_add, ← p52]; congr 1; omega
  have e2 : (2 : Nat) ^ (bl n) * 2 ^ (53 - bl n) = 9007199254740992 := by rw [← Nat.pow_add, ← p53]; congr 1; omega
  have h1 := Nat.mul_le_mul_right (2 ^ (53 - bl n)) b1
  have h2 := Nat.mul_lt_mul_of_pos_right b2 (Nat.two_pow_pos (53 - bl n))
  rw [e1] at h1
  rw [e2] at h2
  exact ⟨h1, h2⟩

/-- A long number, cut. -/
theorem long_bounds {n : Nat} (h : 53 < bl n) : 4503599627370496 ≤ n / 2 ^ (bl n - 53) ∧ n / 2 ^ (bl n - 53) < 9007199254740992 := by
  have h0 : 0 < n := by
    rcases Nat.eq_zero_or_pos n with h0 | h0
    · subst h0; simp [bl_zero] at h
    · exact h0
  obtain ⟨b1, b2, b3⟩ := bl_bounds h0
  have e1 : 4503599627370496 * (2 : Nat) ^ (bl n - 53) = 2 ^ (bl n - 1) := by rw [← p52, ← Nat.pow_add]; congr 1; omega
  have e2 : 9007199254740992 * (2 : Nat) ^ (bl n - 53) = 2 ^ (bl n) := by rw [← p53, ← Nat.pow_add]; congr 1; omega
  constructor
  · exact (Nat.le_div_iff_mul_le (Nat.two_pow_pos _)).2 (by rw [e1]; exact b1)
  · exact (Nat.div_lt_iff_lt_mul (Nat.two_pow_pos _)).2 (by rw [e2]; exact b2)

theorem bl53 {q : Nat} (h1 : 4503599627370496 ≤ q) (h2 : q < 9007199254740992) : bl q = 53 := bl_of (by rw [show 53 - 1 = 52 by rfl, p52]; exact h1) (by rw [p53]; exact h2) (by decide)
theorem bl54 : bl 9007199254740992 = 54 := bl_of (by rw [show 54 - 1 = 53 by rfl, p53]; exact Nat.le_refl _) (by decide) (by decide)

theorem mant_bounds {n : Nat} (up : Bool) (h0 : 0 < n) : 4503599627370496 ≤ (mant n up).1 ∧ (mant n up).1 < 9007199254740992 := by
  unfold mant
  split
  · exact short_bounds h0 (by assumption)
  · have := long_bounds (n := n) (by omega)
    split
    · split <;> simp <;> omega
    · exact this

theorem len_of_bl (n : Nat) : (digits n).length ≤ bl n / 24 + 1 := by
  rcases Nat.eq_zero_or_pos n with h0 | h0
  · subst h0; simp [digits_zero]
  · exact len_of_lt2 (bl_bounds h0).2.1

/-- What the walks leave. -/
def RoundR (s : Bool) (n : Nat) (e way : Int) (w : World) (ev : Ending) (w' : World) : Prop :=
  ev = .returned (.tuple #[.int .u64 ((roundN s n e way).1 : Int), .bool (roundN s n e way).2]) ∧ Below w.heap.size w w'

theorem round_fin {s : Bool} {n m : Nat} {e e' way : Int} {w wm w2 : World} (r : roundN s n e way = packN s m e') (h1 : Below w.heap.size w wm) (h2 : Below wm.heap.size wm w2) :
    RoundR s n e way w (.returned (.tuple #[.int .u64 ((packN s m e').1 : Int), .bool (packN s m e').2])) w2 := ⟨by rw [r], h1.trans (h2.mono h1.size)⟩

set_option maxHeartbeats 1000000 in
set_option maxRecDepth 100000 in
theorem round_short (x : Value) (s : Bool) (n : Nat) (e way : Int) (w : World) (hx : NumV w x s n e) (hn : bl n ≤ 53) (he1 : -200000 ≤ e) (he2 : e ≤ 200000) :
    Calls Tryz.prog 115 #[x, .int .i64 way] w fun ev w' => RoundR s n e way w ev w' := by
  obtain ⟨ao, la, ca, rfl, hl1, hN⟩ := hx
  have hlen := len_of_bl n
  have HL : Hid (la = (digits n).length) := hl1
  clear hl1
  go_enter Tryz.func115, Tryz.ntmps115
  go_wp2_with fail
  have hW : Below w.heap.size w (w.alloc (Obj.cells #[Value.bool s, Value.slice ao la ca, Value.int IntKind.i64 e] 92)) := (Below.refl _ _).alloc (Nat.le_refl _) _
  refine (size_any n _ _ (hN.below hW (Nat.le_refl _)) (by omega)).mono ?_
  rintro ev w1 ⟨rfl, rfl⟩
  obtain ⟨k00, k01, k02, k03, k04, k05⟩ := blk3 (blk_new w (Obj.cells #[Value.bool s, Value.slice ao la ca, Value.int IntKind.i64 e] 92))
  have HN : Hid (NatV (w.alloc (Obj.cells #[Value.bool s, Value.slice ao la ca, Value.int IntKind.i64 e] 92)) (.slice ao la ca) n) := hN.below hW (Nat.le_refl _)
  have HW : Hid (Below w.heap.size w (w.alloc (Obj.cells #[Value.bool s, Value.slice ao la ca, Value.int IntKind.i64 e] 92))) := hW
  clear hN hW
  by_cases h0 : n = 0
  · have r : Hid (roundN s n e way = (0, true)) := by show _ = _; unfold roundN; rw [if_pos h0]
    have hb0 : bl n = 0 := bl_eq_zero.2 h0
    have HR : Hid (RoundR s n e way w = fun ev w' => ev = .returned (.tuple #[.int .u64 ((roundN s n e way).1 : Int), .bool (roundN s n e way).2]) ∧ Below w.heap.size w w') := rfl
    rw [hb0]
    go_wp2
    go_ret2
    rw [HR.out]
    exact ⟨by rw [r.out]; rfl, HW.out⟩
  · have hb0 : bl n ≠ 0 := fun h => h0 (bl_eq_zero.1 h)
    have r : Hid (roundN s n e way = packN s (n * 2 ^ (53 - bl n)) (e + ((bl n : Int) - 53))) := by show _ = _; unfold roundN mant; rw [if_neg h0, if_pos hn]
    have HB : Hid _ := short_bounds (by omega) hn
    have HLN : Hid ((digits n).length ≤ 500000) := by show _ ≤ _; omega
    have HR : Hid (RoundR s n e way w = fun ev w' => ev = .returned (.tuple #[.int .u64 ((roundN s n e way).1 : Int), .bool (roundN s n e way).2]) ∧ Below w.heap.size w w') := rfl
    generalize bl n = B at *
    clear hlen h0
    have t0 : ((B : Int) == 0) = false := by rw [beq_eq_false_iff_ne]; omega
    rcases (show B = 53 ∨ B < 53 by omega) with hb | hb
    · subst hb
      clear t0
      go_wp2_with fail
      refine (packed_any s n e _ _ HN.out (by have := HB.out; simp at this; omega) (by have := HB.out; simp at this; omega) (by omega) (by omega)).mono ?_
      rintro ev w2 ⟨rfl, hb2⟩
      have HB2 : Hid (Below _ _ w2) := hb2
      clear hb2
      go_wp2
      go_ret2
      refine round_fin (m := n) (e' := e) ?_ HW.out HB2.out
      rw [r.out, Nat.sub_self, Nat.pow_zero, Nat.mul_one, show e + (((53 : Nat) : Int) - 53) = e by omega]
    · have hc : (53 : Int) - (B : Int) = ((53 - B : Nat) : Int) := by omega
      have t1 : ((B : Int) == 54) = false := by rw [beq_eq_false_iff_ne]; omega
      have HQ : Hid (e + ((B : Int) - 53) = e - ((53 - B : Nat) : Int)) := by show _ = _; omega
      go_wp2_with fail
      refine (up_any n (53 - B) _ _ HN.out HLN.out (by omega)).mono ?_
      rintro ev w2 ⟨v2, rfl, hN2, hb2⟩
      obtain ⟨ao2, la2, ca2, rfl, HL2⟩ := hN2.slice2
      have HB2 : Hid (Below _ _ w2) := hb2
      have HN2 : Hid (NatV w2 _ _) := hN2
      obtain ⟨j00, j01, j02, j03, j04, j05⟩ := blk3 (blk_below (blk_new w (Obj.cells #[Value.bool s, Value.slice ao la ca, Value.int IntKind.i64 e] 92)) hb2)
      clear hb2 hN2 k00 k01 k02 k03 k04 k05
      go_wp2_with fail
      refine (packed_any s (n * 2 ^ (53 - B)) (e - ((53 - B : Nat) : Int)) _ _ HN2.out HB.out.1 HB.out.2 (by omega) (by omega)).mono ?_
      rintro ev w3 ⟨rfl, hb3⟩
      have HB3 : Hid (Below _ _ w3) := hb3
      clear hb3
      go_wp2
      go_ret2
      refine round_fin (m := n * 2 ^ (53 - B)) (e' := e - ((53 - B : Nat) : Int)) ?_ (HW.out.trans (HB2.out.mono HW.out.size)) HB3.out
      rw [r.out, HQ.out]

set_option maxHeartbeats 1000000 in
set_option maxRecDepth 100000 in
theorem round_long (x : Value) (s : Bool) (n : Nat) (e way : Int) (w : World) (hx : NumV w x s n e) (hw : way = 1 ∨ way = -1) (hn : 53 < bl n) (hn2 : bl n ≤ 100000) (he1 : -200000 ≤ e) (he2 : e ≤ 200000) :
    Calls Tryz.prog 115 #[x, .int .i64 way] w fun ev w' => RoundR s n e way w ev w' := by
  obtain ⟨ao, la, ca, rfl, hl1, hN⟩ := hx
  have hlen := len_of_bl n
  have HL : Hid (la = (digits n).length) := hl1
  have hW : Below w.heap.size w (w.alloc (Obj.cells #[Value.bool s, Value.slice ao la ca, Value.int IntKind.i64 e] 92)) := (Below.refl _ _).alloc (Nat.le_refl _) _
  have HN : Hid (NatV (w.alloc (Obj.cells #[Value.bool s, Value.slice ao la ca, Value.int IntKind.i64 e] 92)) (.slice ao la ca) n) := hN.below hW (Nat.le_refl _)
  have HW : Hid (Below w.heap.size w (w.alloc (Obj.cells #[Value.bool s, Value.slice ao la ca, Value.int IntKind.i64 e] 92))) := hW
  have HLB : Hid _ := long_bounds hn
  have HLN : Hid ((digits n).length ≤ 500000) := by show _ ≤ _; omega
  have H0 : Hid (n ≠ 0) := by show _ ≠ _; rintro rfl; simp [bl_zero] at hn
  have HR : Hid (∀ o, offS s way = o → roundN s n e way = packN s (mant n o).1 (e + (mant n o).2)) := by
    intro o ho; subst ho; unfold roundN; rw [if_neg H0.out]
  have HM1 : Hid (∀ o, (o = true ∧ n % 2 ^ (bl n - 53) ≠ 0) → n / 2 ^ (bl n - 53) + 1 = 9007199254740992 → mant n o = (4503599627370496, (bl n : Int) - 52)) := by
    intro o h1 h2; unfold mant; rw [if_neg (by omega), if_pos h1, if_pos h2]
  have HM2 : Hid (∀ o, (o = true ∧ n % 2 ^ (bl n - 53) ≠ 0) → ¬ n / 2 ^ (bl n - 53) + 1 = 9007199254740992 → mant n o = (n / 2 ^ (bl n - 53) + 1, (bl n : Int) - 53)) := by
    intro o h1 h2; unfold mant; rw [if_neg (by omega), if_pos h1, if_neg h2]
  have HM3 : Hid (∀ o, ¬ (o = true ∧ n % 2 ^ (bl n - 53) ≠ 0) → mant n o = (n / 2 ^ (bl n - 53), (bl n : Int) - 53)) := by
    intro o h1; unfold mant; rw [if_neg (by omega), if_neg h1]
  have HS : Hid (Calls Tryz.prog 161 #[.slice ao la ca] (w.alloc (Obj.cells #[Value.bool s, Value.slice ao la ca, Value.int IntKind.i64 e] 92)) fun ev w' => ev = .returned (.int .i64 (bl n : Int)) ∧ w' = w.alloc (Obj.cells #[Value.bool s, Value.slice ao la ca, Value.int IntKind.i64 e] 92)) := size_any n (.slice ao la ca) _ HN.out (by omega)
  clear hl1 hN hW hlen
  generalize bl n = B at *
  obtain ⟨k, rfl⟩ : ∃ k, B = k + 53 := ⟨B - 53, by omega⟩
  simp only [Nat.add_sub_cancel] at HLB HM1 HM2 HM3
  go_enter Tryz.func115, Tryz.ntmps115
  go_wp2_with fail
  refine Calls.mono HS.out ?_
  rintro ev w1 ⟨rfl, rfl⟩
  obtain ⟨k00, k01, k02, k03, k04, k05⟩ := blk3 (blk_new w (Obj.cells #[Value.bool s, Value.slice ao la ca, Value.int IntKind.i64 e] 92))
  have t0 : (((k + 53 : Nat) : Int) == 0) = false := by rw [beq_eq_false_iff_ne]; omega
  have t2 : ((k + 53 : Nat) : Int) - 53 = (k : Int) := by omega
  go_wp2_with fail
  refine (down_any n k _ _ HN.out (by have := HLN.out; omega) (by omega)).mono ?_
  rintro ev w2 ⟨v2, rfl, hN2, hb2⟩
  obtain ⟨ao2, la2, ca2, rfl, HL2⟩ := hN2.slice2
  have HB2 : Hid (Below w.heap.size w w2) := HW.out.trans (hb2.mono HW.out.size)
  have HN2 : Hid (NatV w2 _ _) := hN2
  obtain ⟨j00, j01, j02, j03, j04, j05⟩ := blk3 (blk_below (blk_new w (Obj.cells #[Value.bool s, Value.slice ao la ca, Value.int IntKind.i64 e] 92)) hb2)
  have HBK : Hid (w2.heap[w.heap.size]? = _) := blk_below (blk_new w (Obj.cells #[Value.bool s, Value.slice ao la ca, Value.int IntKind.i64 e] 92)) hb2
  have hlq := len_of_bl (n / 2 ^ k)
  rw [bl53 HLB.out.1 HLB.out.2] at hlq
  have HLQ : Hid ((digits (n / 2 ^ k)).length ≤ 3) := hlq
  have HS2 : Hid (bl (n / 2 ^ k) = 53) := bl53 HLB.out.1 HLB.out.2
  clear hb2 hN2 hlq k00 k01 k02 k03 k04 k05 HS HN HW HLN H0 t0 t2
  by_cases hz : n % 2 ^ k = 0
  · rw [decide_eq_true hz]
    have FIN : Hid (roundN s n e way = packN s (n / 2 ^ k) (e + (k : Int))) := by
      show _ = _
      rw [HR.out _ rfl, HM3.out _ (fun h => h.2 hz)]; congr 1; omega
    clear HR HM1 HM2 HM3 hz
    rcases hw with rfl | rfl <;> cases s
    all_goals
      go_wp2_with fail
      refine (size_any _ _ _ HN2.out (by have := HLQ.out; omega)).mono ?_
      rintro ev w3 ⟨rfl, rfl⟩
      rw [HS2.out]
      go_wp2_with fail
      refine (packed_any _ (n / 2 ^ k) (e + (k : Int)) _ _ HN2.out HLB.out.1 HLB.out.2 (by omega) (by omega)).mono ?_
      rintro ev w4 ⟨rfl, hb4⟩
      have HB4 : Hid (Below _ _ w4) := hb4
      clear hb4
      go_wp2
      go_ret2
      exact round_fin FIN.out HB2.out HB4.out
  · rw [decide_eq_false hz]
    have HZ : Hid (n % 2 ^ k ≠ 0) := hz
    clear hz
    rcases hw with rfl | rfl <;> cases s
    · have FIN : Hid (n / 2 ^ k + 1 = 9007199254740992 ∧ roundN false n e (1) = packN false 4503599627370496 (e + (k : Int) + 1) ∨ ¬ n / 2 ^ k + 1 = 9007199254740992 ∧ roundN false n e (1) = packN false (n / 2 ^ k + 1) (e + (k : Int))) := by
        show _ ∨ _
        by_cases hq : n / 2 ^ k + 1 = 9007199254740992
        · refine Or.inl ⟨hq, ?_⟩
          rw [HR.out true rfl, HM1.out _ ⟨rfl, HZ.out⟩ hq]; congr 1; omega
        · refine Or.inr ⟨hq, ?_⟩
          rw [HR.out true rfl, HM2.out _ ⟨rfl, HZ.out⟩ hq]; congr 1; omega
      clear HR HM1 HM2 HM3 HZ
      go_wp2_with fail
      refine (nat_any 1 _ (by omega)).mono ?_
      rintro ev w3 ⟨v3, rfl, hN3, hb3⟩
      obtain ⟨ao3, la3, ca3, rfl, HL3⟩ := hN3.slice2
      have HN3 : Hid (NatV w3 _ _) := hN3
      have HB3 : Hid (Below _ w2 w3) := hb3
      clear hb3 hN3
      go_wp2_with fail
      refine (plus_any (n / 2 ^ k) 1 _ _ _ (HN2.out.below HB3.out (Nat.le_refl _)) HN3.out (by have := HLQ.out; omega) (by decide)).mono ?_
      rintro ev w4 ⟨v4, rfl, hN4, hb4⟩
      obtain ⟨ao4, la4, ca4, rfl, HL4⟩ := hN4.slice2
      have HBK4 : Hid (w4.heap[w.heap.size]? = _) := blk_below (blk_below HBK.out HB3.out) hb4
      have HN4 : Hid (NatV w4 _ _) := hN4
      have HB4 : Hid (Below w.heap.size w w4) := (HB2.out.trans (HB3.out.mono HB2.out.size)).trans (hb4.mono (HB2.out.trans (HB3.out.mono HB2.out.size)).size)
      obtain ⟨i00, i01, i02, i03, i04, i05⟩ := blk3 HBK4.out
      clear hb4 hN4 HBK HN3 HN2 HB3 HB2 j00 j01 j02 j03 j04 j05
      go_wp2_with fail
      rcases FIN.out with ⟨hq, hr⟩ | ⟨hq, hr⟩
      · have FIN2 : Hid (roundN _ n e _ = packN _ 4503599627370496 (e + (k : Int) + 1)) := hr
        clear FIN hr
        rw [hq] at HN4
        refine (size_any 9007199254740992 _ _ HN4.out (by decide)).mono ?_
        rintro ev w5 ⟨rfl, rfl⟩
        rw [bl54]
        go_wp2_with fail
        refine (down_any 9007199254740992 1 _ _ HN4.out (by decide) (by decide)).mono ?_
        rintro ev w5 ⟨v5, rfl, hN5, hb5⟩
        obtain ⟨ao5, la5, ca5, rfl, HL5⟩ := hN5.slice2
        have HN5 : Hid (NatV w5 _ 4503599627370496) := hN5
        obtain ⟨l00, l01, l02, l03, l04, l05⟩ := blk3 (blk_below HBK4.out hb5)
        have HB5 : Hid (Below w.heap.size w w5) := HB4.out.trans (hb5.mono HB4.out.size)
        clear hb5 hN5 i00 i01 i02 i03 i04 i05
        go_wp2_with fail
        refine (packed_any _ 4503599627370496 (e + (k : Int) + 1) _ _ HN5.out (by decide) (by decide) (by omega) (by omega)).mono ?_
        rintro ev w6 ⟨rfl, hb6⟩
        have HB6 : Hid (Below _ _ w6) := hb6
        clear hb6
        go_wp2
        go_ret2
        exact round_fin FIN2.out HB5.out HB6.out
      · have FIN2 : Hid (roundN _ n e _ = packN _ (n / 2 ^ k + 1) (e + (k : Int))) := hr
        have q1 : Hid (n / 2 ^ k + 1 < 9007199254740992) := by show _ < _; have := HLB.out.2; omega
        have q2 : Hid (4503599627370496 ≤ n / 2 ^ k + 1) := by show _ ≤ _; have := HLB.out.1; omega
        have hlq := len_of_bl (n / 2 ^ k + 1)
        rw [bl53 q2.out q1.out] at hlq
        clear FIN hr hq
        refine (size_any (n / 2 ^ k + 1) _ _ HN4.out (by omega)).mono ?_
        clear hlq
        rintro ev w5 ⟨rfl, rfl⟩
        rw [bl53 q2.out q1.out]
        go_wp2_with fail
        refine (packed_any _ (n / 2 ^ k + 1) (e + (k : Int)) _ _ HN4.out q2.out q1.out (by omega) (by omega)).mono ?_
        rintro ev w6 ⟨rfl, hb6⟩
        have HB6 : Hid (Below _ _ w6) := hb6
        clear hb6
        go_wp2
        go_ret2
        exact round_fin FIN2.out HB4.out HB6.out
    · have FIN : Hid (roundN true n e (1) = packN true (n / 2 ^ k) (e + (k : Int))) := by
        show _ = _
        rw [HR.out false rfl, HM3.out _ (fun h => by simp at h)]; congr 1; omega
      clear HR HM1 HM2 HM3 HZ
      go_wp2_with fail
      refine (size_any _ _ _ HN2.out (by have := HLQ.out; omega)).mono ?_
      rintro ev w3 ⟨rfl, rfl⟩
      rw [HS2.out]
      go_wp2_with fail
      refine (packed_any _ (n / 2 ^ k) (e + (k : Int)) _ _ HN2.out HLB.out.1 HLB.out.2 (by omega) (by omega)).mono ?_
      rintro ev w4 ⟨rfl, hb4⟩
      have HB4 : Hid (Below _ _ w4) := hb4
      clear hb4
      go_wp2
      go_ret2
      exact round_fin FIN.out HB2.out HB4.out
    · have FIN : Hid (roundN false n e (-1) = packN false (n / 2 ^ k) (e + (k : Int))) := by
        show _ = _
        rw [HR.out false rfl, HM3.out _ (fun h => by simp at h)]; congr 1; omega
      clear HR HM1 HM2 HM3 HZ
      go_wp2_with fail
      refine (size_any _ _ _ HN2.out (by have := HLQ.out; omega)).mono ?_
      rintro ev w3 ⟨rfl, rfl⟩
      rw [HS2.out]
      go_wp2_with fail
      refine (packed_any _ (n / 2 ^ k) (e + (k : Int)) _ _ HN2.out HLB.out.1 HLB.out.2 (by omega) (by omega)).mono ?_
      rintro ev w4 ⟨rfl, hb4⟩
      have HB4 : Hid (Below _ _ w4) := hb4
      clear hb4
      go_wp2
      go_ret2
      exact round_fin FIN.out HB2.out HB4.out
    · have FIN : Hid (n / 2 ^ k + 1 = 9007199254740992 ∧ roundN true n e (-1) = packN true 4503599627370496 (e + (k : Int) + 1) ∨ ¬ n / 2 ^ k + 1 = 9007199254740992 ∧ roundN true n e (-1) = packN true (n / 2 ^ k + 1) (e + (k : Int))) := by
        show _ ∨ _
        by_cases hq : n / 2 ^ k + 1 = 9007199254740992
        · refine Or.inl ⟨hq, ?_⟩
          rw [HR.out true rfl, HM1.out _ ⟨rfl, HZ.out⟩ hq]; congr 1; omega
        · refine Or.inr ⟨hq, ?_⟩
          rw [HR.out true rfl, HM2.out _ ⟨rfl, HZ.out⟩ hq]; congr 1; omega
      clear HR HM1 HM2 HM3 HZ
      go_wp2_with fail
      refine (nat_any 1 _ (by omega)).mono ?_
      rintro ev w3 ⟨v3, rfl, hN3, hb3⟩
      obtain ⟨ao3, la3, ca3, rfl, HL3⟩ := hN3.slice2
      have HN3 : Hid (NatV w3 _ _) := hN3
      have HB3 : Hid (Below _ w2 w3) := hb3
      clear hb3 hN3
      go_wp2_with fail
      refine (plus_any (n / 2 ^ k) 1 _ _ _ (HN2.out.below HB3.out (Nat.le_refl _)) HN3.out (by have := HLQ.out; omega) (by decide)).mono ?_
      rintro ev w4 ⟨v4, rfl, hN4, hb4⟩
      obtain ⟨ao4, la4, ca4, rfl, HL4⟩ := hN4.slice2
      have HBK4 : Hid (w4.heap[w.heap.size]? = _) := blk_below (blk_below HBK.out HB3.out) hb4
      have HN4 : Hid (NatV w4 _ _) := hN4
      have HB4 : Hid (Below w.heap.size w w4) := (HB2.out.trans (HB3.out.mono HB2.out.size)).trans (hb4.mono (HB2.out.trans (HB3.out.mono HB2.out.size)).size)
      obtain ⟨i00, i01, i02, i03, i04, i05⟩ := blk3 HBK4.out
      clear hb4 hN4 HBK HN3 HN2 HB3 HB2 j00 j01 j02 j03 j04 j05
      go_wp2_with fail
      rcases FIN.out with ⟨hq, hr⟩ | ⟨hq, hr⟩
      · have FIN2 : Hid (roundN _ n e _ = packN _ 4503599627370496 (e + (k : Int) + 1)) := hr
        clear FIN hr
        rw [hq] at HN4
        refine (size_any 9007199254740992 _ _ HN4.out (by decide)).mono ?_
        rintro ev w5 ⟨rfl, rfl⟩
        rw [bl54]
        go_wp2_with fail
        refine (down_any 9007199254740992 1 _ _ HN4.out (by decide) (by decide)).mono ?_
        rintro ev w5 ⟨v5, rfl, hN5, hb5⟩
        obtain ⟨ao5, la5, ca5, rfl, HL5⟩ := hN5.slice2
        have HN5 : Hid (NatV w5 _ 4503599627370496) := hN5
        obtain ⟨l00, l01, l02, l03, l04, l05⟩ := blk3 (blk_below HBK4.out hb5)
        have HB5 : Hid (Below w.heap.size w w5) := HB4.out.trans (hb5.mono HB4.out.size)
        clear hb5 hN5 i00 i01 i02 i03 i04 i05
        go_wp2_with fail
        refine (packed_any _ 4503599627370496 (e + (k : Int) + 1) _ _ HN5.out (by decide) (by decide) (by omega) (by omega)).mono ?_
        rintro ev w6 ⟨rfl, hb6⟩
        have HB6 : Hid (Below _ _ w6) := hb6
        clear hb6
        go_wp2
        go_ret2
        exact round_fin FIN2.out HB5.out HB6.out
      · have FIN2 : Hid (roundN _ n e _ = packN _ (n / 2 ^ k + 1) (e + (k : Int))) := hr
        have q1 : Hid (n / 2 ^ k + 1 < 9007199254740992) := by show _ < _; have := HLB.out.2; omega
        have q2 : Hid (4503599627370496 ≤ n / 2 ^ k + 1) := by show _ ≤ _; have := HLB.out.1; omega
        have hlq := len_of_bl (n / 2 ^ k + 1)
        rw [bl53 q2.out q1.out] at hlq
        clear FIN hr hq
        refine (size_any (n / 2 ^ k + 1) _ _ HN4.out (by omega)).mono ?_
        clear hlq
        rintro ev w5 ⟨rfl, rfl⟩
        rw [bl53 q2.out q1.out]
        go_wp2_with fail
        refine (packed_any _ (n / 2 ^ k + 1) (e + (k : Int)) _ _ HN4.out q2.out q1.out (by omega) (by omega)).mono ?_
        rintro ev w6 ⟨rfl, hb6⟩
        have HB6 : Hid (Below _ _ w6) := hb6
        clear hb6
        go_wp2
        go_ret2
        exact round_fin FIN2.out HB4.out HB6.out

theorem round_any (x : Value) (s : Bool) (n : Nat) (e way : Int) (w : World) (hx : NumV w x s n e) (hw : way = 1 ∨ way = -1) (hn : bl n ≤ 100000) (he1 : -200000 ≤ e) (he2 : e ≤ 200000) :
    Calls Tryz.prog 115 #[x, .int .i64 way] w fun ev w' => RoundR s n e way w ev w' := by
  by_cases h : bl n ≤ 53
  · exact round_short x s n e way w hx h he1 he2
  · exact round_long x s n e way w hx hw (by omega) hn he1 he2
end Go.Proofs.YtonhpkigoplmaaaGreatDoor
namespace Go.Proofs.YtonhpkigoplmaaaGreatDoor
open Go.RowKit Go.Extern
attribute [local go_sem] run_store_float

theorem blk2 {W : World} {g : Nat} {a b : Value} {t : TypeId} (h : W.heap[g]? = some (.cells #[a, b] t (0, 0))) :
    W.cell? ⟨g, 0, none⟩ = some a ∧ W.cell? ⟨g, 1, none⟩ = some b ∧ W.frozen? ⟨g, 0, none⟩ = false ∧ W.frozen? ⟨g, 1, none⟩ = false :=
  ⟨by simp [World.cell?, h], by simp [World.cell?, h], by simp [World.frozen?, h], by simp [World.frozen?, h]⟩

theorem lo_any (x y : Nat) (w : World) : Calls Tryz.prog 100 #[.agg #[.float .f64 x, .float .f64 y]] w fun e w' => e = .returned (.float .f64 x) ∧ Below w.heap.size w w' := by
  go_enter Tryz.func100, Tryz.ntmps100
  go_wp2
  go_ret
  exact ⟨rfl, (Below.refl _ _).alloc (Nat.le_refl _) _⟩

theorem hi_any (x y : Nat) (w : World) : Calls Tryz.prog 101 #[.agg #[.float .f64 x, .float .f64 y]] w fun e w' => e = .returned (.float .f64 y) ∧ Below w.heap.size w w' := by
  go_enter Tryz.func101, Tryz.ntmps101
  go_wp2
  go_ret
  exact ⟨rfl, (Below.refl _ _).alloc (Nat.le_refl _) _⟩

set_option maxHeartbeats 400000 in
theorem box_any (x y : Nat) (w : World) : Calls Tryz.prog 50 #[.agg #[.float .f64 x, .float .f64 y]] w fun e w' => e = .returned (.agg #[.int .u64 (x : Int), .int .u64 (y : Int)]) ∧ Below w.heap.size w w' := by
  have h89 := @run_callFunc_extern Tryz.prog 99 _ MathFloatBits.float64bits Tryz.func99 (by kernel_rfl) (by kernel_rfl) (by kernel_rfl) (by kernel_rfl)
  have cb := c_bits
  go_enter Tryz.func50, Tryz.ntmps50
  go_wp2_with fail
  have B0 := blk_old (blk_new w (Obj.cells #[Value.float FloatKind.f64 x, Value.float FloatKind.f64 y] 67)) (Obj.cells #[Value.int IntKind.u64 0, Value.int IntKind.u64 0] 33)
  have B1 := blk_new (w.alloc (Obj.cells #[Value.float FloatKind.f64 x, Value.float FloatKind.f64 y] 67)) (Obj.cells #[Value.int IntKind.u64 0, Value.int IntKind.u64 0] 33)
  have hW : Below w.heap.size w ((w.alloc (Obj.cells #[Value.float FloatKind.f64 x, Value.float FloatKind.f64 y] 67)).alloc (Obj.cells #[Value.int IntKind.u64 0, Value.int IntKind.u64 0] 33)) :=
    ((Below.refl _ _).alloc (Nat.le_refl _) _).alloc (by simp) _
  simp only [World.size_alloc] at B1
  generalize ((w.alloc (Obj.cells #[Value.float FloatKind.f64 x, Value.float FloatKind.f64 y] 67)).alloc (Obj.cells #[Value.int IntKind.u64 0, Value.int IntKind.u64 0] 33)) = W2 at *
  obtain ⟨k00, k01, -, -⟩ := blk2 B0
  obtain ⟨k10, k11, k12, k13⟩ := blk2 B1
  have HB0 : Hid (W2.heap[w.heap.size]? = _) := B0
  have HB1 : Hid (W2.heap[w.heap.size + 1]? = _) := B1
  have HW : Hid (Below w.heap.size w W2) := hW
  clear B0 B1 hW
  go_region_held3 (fun W => W.cell? ⟨w.heap.size, 0, none⟩ = some (.float .f64 x) ∧ W.cell? ⟨w.heap.size, 1, none⟩ = some (.float .f64 y)) (first | (go_keep; done) | (refine ⟨?_, ?_⟩ <;> first | (go_keep; done) | (rw [cell_set_ne (by omega), cell_set_ne (by omega)]; assumption)))
    (first
      | (go_at_call 100; refine (lo_any x y _).mono ?_; rintro e w3 ⟨rfl, hb3⟩; have HB3 : Hid (Below _ _ w3) := hb3; obtain ⟨k00, k01, -, -⟩ := blk2 (blk_below (show (W2.drew).heap[w.heap.size]? = _ from HB0.out) hb3); obtain ⟨k10, k11, k12, k13⟩ := blk2 (blk_below (show (W2.drew).heap[w.heap.size + 1]? = _ from HB1.out) hb3); clear hb3)
      | (go_at_call 101; refine (hi_any x y _).mono ?_; rintro e w4 ⟨rfl, hb4⟩; have HB4 : Hid (Below _ _ w4) := hb4; obtain ⟨k00, k01, -, -⟩ := blk2 (blk_below (blk_below (show (W2.drew).heap[w.heap.size]? = _ from HB0.out) HB3.out) hb4); obtain ⟨k10, k11, k12, k13⟩ := blk2 (blk_below (blk_below (show (W2.drew).heap[w.heap.size + 1]? = _ from HB1.out) HB3.out) hb4); clear hb4))
  have hbz : Below w.heap.size w w4 := by
    have h0 := HW.out.size
    have h3 := HB3.out
    have h4 := HB4.out
    have h5 : Below w.heap.size w W2.drew := HW.out.drew
    exact (h5.trans (h3.mono (by show _ ≤ W2.heap.size; omega))).trans (h4.mono (by have := h3.size; have e : W2.drew.heap.size = W2.heap.size := rfl; omega))
  clear HB3 HB4 HW HB0 HB1
  go_wp2
  refine bodyPost_ret (v := .agg #[.int .u64 (x : Int), .int .u64 (y : Int)]) (by simp [results, Tryz.results50, go_sem, k10, k11]) rfl ⟨rfl, ?_⟩
  exact (hbz.setCell (by simp) _).setCell (by simp) _

theorem blk_store2 {W : World} {g : Nat} {a b a' b' : Value} {t : TypeId} (h : W.heap[g]? = some (.cells #[a', b'] t (0, 0))) :
    ((W.setCell ⟨g, 0, none⟩ a).setCell ⟨g, 1, none⟩ b).heap[g]? = some (.cells #[a, b] t (0, 0)) := by
  have := heap_setCell_same _ g 1 _ t b (heap_setCell_same W g 0 _ t a h)
  simpa using this

end Go.Proofs.YtonhpkigoplmaaaGreatDoor
namespace Go.Proofs.YtonhpkigoplmaaaGreatDoor
open Go.RowKit

theorem posW_eq {b : Nat} (hb : b < 18446744073709551616) : posW b = if b = 9223372036854775808 then 0 else b := by
  unfold posW; split <;> split <;> omega

theorem positive_any (b : Nat) (w : World) (hb : b < 18446744073709551616) : Calls Tryz.prog 59 #[.int .u64 (b : Int)] w fun e w' => e = .returned (.int .u64 (posW b : Int)) ∧ w' = w := by
  rw [posW_eq hb]
  clear hb
  by_cases h : b = 9223372036854775808
  · subst h
    rw [if_pos rfl]
    go_enter Tryz.func59, Tryz.ntmps59
    go_wp2
    go_ret
    exact ⟨rfl, rfl⟩
  · rw [if_neg h]
    have h1 : ((b : Int) == 9223372036854775808) = false := by simp; omega
    clear h
    go_enter Tryz.func59, Tryz.ntmps59
    go_wp2
    go_ret
    exact ⟨rfl, rfl⟩

theorem plainN_bounds {b : Nat} (x : Bool × Nat × Int) (h : x = (plainN b).getD (false, 0, 0)) : (digits x.2.1).length ≤ 400000 ∧ -400000 ≤ x.2.2 ∧ x.2.2 ≤ 400000 := by
  have hz : (digits 0).length = 0 := rfl
  subst h
  unfold plainN
  split
  · simp [hz]
  · split
    · simp [hz]
    · rename_i h1 h2
      simp only [Option.getD_some]
      have := len_of_lt2 (n := b % 4503599627370496 + 4503599627370496) (k := 54) (by omega)
      omega

set_option maxHeartbeats 400000 in
theorem refMake_any (lo hi : Nat) (w : World) (h1 : lo < 18446744073709551616) (h2 : hi < 18446744073709551616) :
    Calls Tryz.prog 27 #[.agg #[.int .u64 (lo : Int), .int .u64 (hi : Int)]] w fun e w' => e = .returned (.tuple #[.agg #[.int .u64 ((makeN lo hi).1 : Int), .int .u64 ((makeN lo hi).2.1 : Int)], .int .i64 ((makeN lo hi).2.2 : Int)]) ∧ Below w.heap.size w w' := by
  have H1 : Hid (lo < 18446744073709551616) := h1
  have H2 : Hid (hi < 18446744073709551616) := h2
  clear h1 h2
  have HR : Hid (makeN lo hi = if (plainN lo).isSome = false ∨ (plainN hi).isSome = false then (0, 0, 1) else if lessW hi lo = true then (0, 0, 2) else (posW lo, posW hi, 0)) := rfl
  have HL : Hid (lessW hi lo = lessN ((plainN hi).getD (false, 0, 0)).1 ((plainN hi).getD (false, 0, 0)).2.1 ((plainN hi).getD (false, 0, 0)).2.2 ((plainN lo).getD (false, 0, 0)).1 ((plainN lo).getD (false, 0, 0)).2.1 ((plainN lo).getD (false, 0, 0)).2.2) := rfl
  go_enter Tryz.func27, Tryz.ntmps27
  go_wp2_with fail
  have hW : Below w.heap.size w ((w.alloc (Obj.cells #[Value.int IntKind.u64 lo, Value.int IntKind.u64 hi] 28)).alloc (Obj.cells #[Value.int IntKind.u64 0, Value.int IntKind.u64 0] 28)) :=
    ((Below.refl _ _).alloc (Nat.le_refl _) _).alloc (by simp) _
  refine (plain_any lo _ H1.out).mono ?_
  rintro e w1 ⟨x1, rfl, hX1, hb1⟩
  have B0 := blk_below (blk_old (blk_new w (Obj.cells #[Value.int IntKind.u64 lo, Value.int IntKind.u64 hi] 28)) _) hb1
  have B1 := blk_below (blk_new (w.alloc (Obj.cells #[Value.int IntKind.u64 lo, Value.int IntKind.u64 hi] 28)) _) hb1
  simp only [World.size_alloc] at B1
  have hbA : Below w.heap.size w w1 := hW.trans (hb1.mono hW.size)
  obtain ⟨q1, q2, q3⟩ := plainN_bounds (b := lo) _ rfl
  generalize (plainN lo).getD (false, 0, 0) = X1 at *
  generalize (plainN lo).isSome = ok1 at *
  obtain ⟨s1, n1, e1⟩ := X1
  obtain ⟨ao1, la1, ca1, rfl, hl1, hN1⟩ := hX1
  simp only at hl1 hN1 q1 q2 q3
  have HQ1 : Hid ((digits n1).length ≤ 400000 ∧ -400000 ≤ e1 ∧ e1 ≤ 400000) := ⟨q1, q2, q3⟩
  have HL1 : Hid (la1 = (digits n1).length) := hl1
  obtain ⟨k00, k01, -, -⟩ := blk2 B0
  have hz1 : w.heap.size + 1 < w1.heap.size := (Array.getElem?_eq_some_iff.1 B1).1
  have hz0 : w.heap.size < w1.heap.size := by omega
  clear hW hb1 hl1 q1 q2 q3
  go_wp2_with fail
  refine (plain_any hi _ H2.out).mono ?_
  rintro e w2 ⟨x2, rfl, hX2, hb2⟩
  have hA1 : Below w1.heap.size w1 (w1.alloc (Obj.cells #[Value.bool s1, Value.slice ao1 la1 ca1, Value.int IntKind.i64 e1] 92)) := (Below.refl _ _).alloc (Nat.le_refl _) _
  have B0 := blk_below (blk_below B0 hA1) hb2
  have B1 := blk_below (blk_below B1 hA1) hb2
  have BN1 := blk_below (blk_new w1 (Obj.cells #[Value.bool s1, Value.slice ao1 la1 ca1, Value.int IntKind.i64 e1] 92)) hb2
  have hN1 := (hN1.below hA1 (Nat.le_refl _)).below hb2 (Nat.le_refl _)
  have hbB : Below w.heap.size w w2 := (hbA.alloc hbA.size _).trans (hb2.mono (by have := hbA.size; simp; omega))
  obtain ⟨q1, q2, q3⟩ := plainN_bounds (b := hi) _ rfl
  generalize (plainN hi).getD (false, 0, 0) = X2 at *
  generalize (plainN hi).isSome = ok2 at *
  obtain ⟨s2, n2, e2⟩ := X2
  obtain ⟨ao2, la2, ca2, rfl, hl2, hN2⟩ := hX2
  simp only at hl2 hN2 q1 q2 q3
  have HQ2 : Hid ((digits n2).length ≤ 400000 ∧ -400000 ≤ e2 ∧ e2 ≤ 400000) := ⟨q1, q2, q3⟩
  have HL2 : Hid (la2 = (digits n2).length) := hl2
  obtain ⟨j00, j01, -, -⟩ := blk2 B0
  obtain ⟨j10, j11, j12, j13⟩ := blk2 B1
  obtain ⟨m0, m1, m2, -, -, -⟩ := blk3 BN1
  have HB0 : Hid (w2.heap[w.heap.size]? = _) := B0
  have HB1 : Hid (w2.heap[w.heap.size + 1]? = _) := B1
  have HN1 : Hid (NatV w2 _ n1) := hN1
  have HN2 : Hid (NatV w2 _ n2) := hN2
  have HbB : Hid (Below w.heap.size w w2) := hbB
  have hz2 : w1.heap.size < w2.heap.size := (Array.getElem?_eq_some_iff.1 BN1).1
  have hz3 : w.heap.size < w2.heap.size := by omega
  have hz4 : w.heap.size + 1 < w2.heap.size := by omega
  clear hA1 hb2 hl2 q1 q2 q3 B0 B1 BN1 hN1 hN2 hbA hbB k00 k01
  cases ok1
  · have r : Hid (makeN lo hi = (0, 0, 1)) := by show _ = _; rw [HR.out, if_pos (Or.inl rfl)]
    clear HR HL
    go_wp2
    obtain ⟨c10, c11, -, -⟩ := blk2 (blk_old (blk_store2 (a := .int .u64 0) (b := .int .u64 0) HB1.out) (Obj.cells #[Value.bool s2, Value.slice ao2 la2 ca2, Value.int IntKind.i64 e2] 92))
    refine bodyPost_ret (v := .tuple #[.agg #[.int .u64 0, .int .u64 0], .int .i64 1]) (by simp [results, Tryz.results27, go_sem, c10, c11]) rfl ?_
    rw [r.out]
    exact ⟨rfl, ((HbB.out.setCell (by simp) _).setCell (by simp) _).alloc (by have := HbB.out.size; simpa using this) _⟩
  · cases ok2
    · have r : Hid (makeN lo hi = (0, 0, 1)) := by show _ = _; rw [HR.out, if_pos (Or.inr rfl)]
      clear HR HL
      go_wp2
      obtain ⟨c10, c11, -, -⟩ := blk2 (blk_old (blk_store2 (a := .int .u64 0) (b := .int .u64 0) HB1.out) (Obj.cells #[Value.bool s2, Value.slice ao2 la2 ca2, Value.int IntKind.i64 e2] 92))
      refine bodyPost_ret (v := .tuple #[.agg #[.int .u64 0, .int .u64 0], .int .i64 1]) (by simp [results, Tryz.results27, go_sem, c10, c11]) rfl ?_
      rw [r.out]
      exact ⟨rfl, ((HbB.out.setCell (by simp) _).setCell (by simp) _).alloc (by have := HbB.out.size; simpa using this) _⟩
    · have hA2 : Below w2.heap.size w2 (w2.alloc (Obj.cells #[Value.bool s2, Value.slice ao2 la2 ca2, Value.int IntKind.i64 e2] 92)) := (Below.refl _ _).alloc (Nat.le_refl _) _
      have HN1' : Hid (NumV (w2.alloc (Obj.cells #[Value.bool s2, Value.slice ao2 la2 ca2, Value.int IntKind.i64 e2] 92)) (.agg #[.bool s1, .slice ao1 la1 ca1, .int .i64 e1]) s1 n1 e1) := ⟨_, _, _, rfl, HL1.out, HN1.out.below hA2 (Nat.le_refl _)⟩
      have HN2' : Hid (NumV (w2.alloc (Obj.cells #[Value.bool s2, Value.slice ao2 la2 ca2, Value.int IntKind.i64 e2] 92)) (.agg #[.bool s2, .slice ao2 la2 ca2, .int .i64 e2]) s2 n2 e2) := ⟨_, _, _, rfl, HL2.out, HN2.out.below hA2 (Nat.le_refl _)⟩
      have HB0 : Hid ((w2.alloc (Obj.cells #[Value.bool s2, Value.slice ao2 la2 ca2, Value.int IntKind.i64 e2] 92)).heap[w.heap.size]? = _) := blk_below HB0.out hA2
      have HB1 : Hid ((w2.alloc (Obj.cells #[Value.bool s2, Value.slice ao2 la2 ca2, Value.int IntKind.i64 e2] 92)).heap[w.heap.size + 1]? = _) := blk_below HB1.out hA2
      have HbC : Hid (Below w.heap.size w (w2.alloc (Obj.cells #[Value.bool s2, Value.slice ao2 la2 ca2, Value.int IntKind.i64 e2] 92))) := HbB.out.alloc HbB.out.size _
      clear hA2 HN1 HN2 HbB
      go_wp2_with fail
      refine (less_any _ _ s2 s1 n2 n1 e2 e1 _ HN2'.out HN1'.out HQ2.out.1 HQ1.out.1 HQ2.out.2.1 HQ2.out.2.2 HQ1.out.2.1 HQ1.out.2.2).mono ?_
      rintro e w3 ⟨rfl, hb3⟩
      have hlw : lessN s2 n2 e2 s1 n1 e1 = lessW hi lo := HL.out.symm
      rw [hlw]
      have B0 := blk_below HB0.out hb3
      have B1 := blk_below HB1.out hb3
      have HbD : Hid (Below w.heap.size w w3) := HbC.out.trans (hb3.mono HbC.out.size)
      clear hb3 hlw HbC HB0 HB1 HN1' HN2' j00 j01 j10 j11 j12 j13 m0 m1 m2 hz0 hz1 hz2 hz3 hz4 HQ1 HQ2 HL1 HL2 HL
      obtain ⟨k00, k01, -, -⟩ := blk2 B0
      obtain ⟨k10, k11, k12, k13⟩ := blk2 B1
      have HB1 : Hid (w3.heap[w.heap.size + 1]? = _) := B1
      clear B0 B1
      cases hlt : lessW hi lo
      · have r : Hid (makeN lo hi = (posW lo, posW hi, 0)) := by show _ = _; rw [HR.out, if_neg (by simp), if_neg (by rw [hlt]; simp)]
        clear HR hlt
        go_wp2_with fail
        go_region_held3 (fun W => W.cell? ⟨w.heap.size, 0, none⟩ = some (.int .u64 (lo : Int)) ∧ W.cell? ⟨w.heap.size, 1, none⟩ = some (.int .u64 (hi : Int))) (first | (go_keep; done) | (refine ⟨?_, ?_⟩ <;> first | (go_keep; done) | (rw [cell_set_ne (by omega), cell_set_ne (by omega)]; assumption)))
          (first
            | (go_at_call_of 59 (Value.int IntKind.u64 (lo : Int)); refine (positive_any lo _ H1.out).mono ?_; rintro e w4 ⟨rfl, rfl⟩)
            | (go_at_call_of 59 (Value.int IntKind.u64 (hi : Int)); refine (positive_any hi _ H2.out).mono ?_; rintro e w4 ⟨rfl, rfl⟩))
        all_goals
          go_wp2
          refine bodyPost_ret (v := .tuple #[.agg #[.int .u64 (posW lo : Int), .int .u64 (posW hi : Int)], .int .i64 0]) (by simp [results, Tryz.results27, go_sem, k10, k11]) rfl ?_
          rw [r.out]
          exact ⟨rfl, ((HbD.out.setCell (by simp) _).setCell (by simp) _).drew⟩
      · have r : Hid (makeN lo hi = (0, 0, 2)) := by show _ = _; rw [HR.out, if_neg (by simp), if_pos hlt]
        clear HR hlt
        go_wp2
        refine bodyPost_ret (v := .tuple #[.agg #[.int .u64 0, .int .u64 0], .int .i64 2]) (by simp [results, Tryz.results27, go_sem, k10, k11]) rfl ?_
        rw [r.out]
        exact ⟨rfl, (HbD.out.setCell (by simp) _).setCell (by simp) _⟩
end Go.Proofs.YtonhpkigoplmaaaGreatDoor
namespace Go.Proofs.YtonhpkigoplmaaaGreatDoor
open Go.RowKit

/-- What around gives: two ends and an error. -/
def aroundN (a b : Bool × Nat × Int) : Nat × Nat × Nat :=
  if (roundN a.1 a.2.1 a.2.2 (-1)).2 = true ∧ (roundN b.1 b.2.1 b.2.2 1).2 = true then ((roundN a.1 a.2.1 a.2.2 (-1)).1, (roundN b.1 b.2.1 b.2.2 1).1, 0) else (0, 0, 3)

/-- Numbers that around can take. -/
def Small (x : Bool × Nat × Int) : Prop := bl x.2.1 ≤ 100000 ∧ -200000 ≤ x.2.2 ∧ x.2.2 ≤ 200000

/-- A Num by its three parts. -/
def NumT (w : World) (v : Value) (x : Bool × Nat × Int) : Prop := NumV w v x.1 x.2.1 x.2.2

set_option maxHeartbeats 400000 in
theorem around_any (u v : Value) (x y : Bool × Nat × Int) (w : World) (hx : NumT w u x) (hy : NumT w v y) (sx : Small x) (sy : Small y) :
    Calls Tryz.prog 62 #[u, v] w fun e w' => e = .returned (.tuple #[.agg #[.int .u64 ((aroundN x y).1 : Int), .int .u64 ((aroundN x y).2.1 : Int)], .int .i64 ((aroundN x y).2.2 : Int)]) ∧ Below w.heap.size w w' := by
  obtain ⟨s1, n1, e1⟩ := x
  obtain ⟨s2, n2, e2⟩ := y
  obtain ⟨ao1, la1, ca1, rfl, hl1, hN1⟩ := hx
  obtain ⟨ao2, la2, ca2, rfl, hl2, hN2⟩ := hy
  simp only at hl1 hl2 hN1 hN2
  have HL1 : Hid (la1 = (digits n1).length) := hl1
  have HL2 : Hid (la2 = (digits n2).length) := hl2
  have HN1 : Hid (NatV w _ n1) := hN1
  have HN2 : Hid (NatV w _ n2) := hN2
  have S1 : Hid (bl n1 ≤ 100000 ∧ -200000 ≤ e1 ∧ e1 ≤ 200000) := sx
  have S2 : Hid (bl n2 ≤ 100000 ∧ -200000 ≤ e2 ∧ e2 ≤ 200000) := sy
  have HR : Hid (aroundN (s1, n1, e1) (s2, n2, e2) = if (roundN s1 n1 e1 (-1)).2 = true ∧ (roundN s2 n2 e2 1).2 = true then ((roundN s1 n1 e1 (-1)).1, (roundN s2 n2 e2 1).1, 0) else (0, 0, 3)) := rfl
  clear hl1 hl2 hN1 hN2 sx sy
  go_enter Tryz.func62, Tryz.ntmps62
  go_wp2_with fail
  have hW : Below w.heap.size w (((w.alloc (Obj.cells #[Value.bool s1, Value.slice ao1 la1 ca1, Value.int IntKind.i64 e1] 92)).alloc (Obj.cells #[Value.bool s2, Value.slice ao2 la2 ca2, Value.int IntKind.i64 e2] 92)).alloc (Obj.cells #[Value.int IntKind.u64 0, Value.int IntKind.u64 0] 28)) :=
    (((Below.refl _ _).alloc (Nat.le_refl _) _).alloc (by simp) _).alloc (by simp; omega) _
  have B2 := blk_new ((w.alloc (Obj.cells #[Value.bool s1, Value.slice ao1 la1 ca1, Value.int IntKind.i64 e1] 92)).alloc (Obj.cells #[Value.bool s2, Value.slice ao2 la2 ca2, Value.int IntKind.i64 e2] 92)) (Obj.cells #[Value.int IntKind.u64 0, Value.int IntKind.u64 0] 28)
  have B0 := blk_old (blk_old (blk_new w (Obj.cells #[Value.bool s1, Value.slice ao1 la1 ca1, Value.int IntKind.i64 e1] 92)) (Obj.cells #[Value.bool s2, Value.slice ao2 la2 ca2, Value.int IntKind.i64 e2] 92)) (Obj.cells #[Value.int IntKind.u64 0, Value.int IntKind.u64 0] 28)
  have B1 := blk_old (blk_new (w.alloc (Obj.cells #[Value.bool s1, Value.slice ao1 la1 ca1, Value.int IntKind.i64 e1] 92)) (Obj.cells #[Value.bool s2, Value.slice ao2 la2 ca2, Value.int IntKind.i64 e2] 92)) (Obj.cells #[Value.int IntKind.u64 0, Value.int IntKind.u64 0] 28)
  simp only [World.size_alloc] at B1 B2
  generalize (((w.alloc (Obj.cells #[Value.bool s1, Value.slice ao1 la1 ca1, Value.int IntKind.i64 e1] 92)).alloc (Obj.cells #[Value.bool s2, Value.slice ao2 la2 ca2, Value.int IntKind.i64 e2] 92)).alloc (Obj.cells #[Value.int IntKind.u64 0, Value.int IntKind.u64 0] 28)) = W at *
  refine (round_any _ s1 n1 e1 (-1) W ⟨_, _, _, rfl, HL1.out, HN1.out.below hW (Nat.le_refl _)⟩ (Or.inr rfl) S1.out.1 S1.out.2.1 S1.out.2.2).mono ?_
  rintro ev w1 ⟨rfl, hb1⟩
  have B0 := blk_below B0 hb1
  have B1 := blk_below B1 hb1
  have B2 := blk_below B2 hb1
  have hbA := hW.trans (hb1.mono hW.size)
  clear hW hb1 HL1 HN1 S1
  obtain ⟨k10, k11, k12, k13, k14, k15⟩ := blk3 B1
  generalize roundN s1 n1 e1 (-1) = r1 at *
  obtain ⟨a1, ok1⟩ := r1
  have hz : w.heap.size < w1.heap.size := (Array.getElem?_eq_some_iff.1 B0).1
  go_wp2_with fail
  refine (round_any _ s2 n2 e2 1 w1 ⟨_, _, _, rfl, HL2.out, HN2.out.below hbA (Nat.le_refl _)⟩ (Or.inl rfl) S2.out.1 S2.out.2.1 S2.out.2.2).mono ?_
  rintro ev w2 ⟨rfl, hb2⟩
  have B2 := blk_below B2 hb2
  have hbB := hbA.trans (hb2.mono hbA.size)
  clear hbA hb2 HL2 HN2 S2 B0 B1 k10 k11 k12 k13 k14 k15 hz
  generalize roundN s2 n2 e2 1 = r2 at *
  obtain ⟨a2, ok2⟩ := r2
  simp only at HR
  obtain ⟨j0, j1, j2, j3⟩ := blk2 B2
  have hz : w.heap.size + 1 + 1 < w2.heap.size := (Array.getElem?_eq_some_iff.1 B2).1
  have HB2 : Hid (w2.heap[w.heap.size + 1 + 1]? = _) := B2
  have HbB : Hid (Below w.heap.size w w2) := hbB
  clear B2 hbB
  cases ok1
  · have r : Hid (aroundN (s1, n1, e1) (s2, n2, e2) = (0, 0, 3)) := by show _ = _; rw [HR.out, if_neg (by simp)]
    clear HR
    go_wp2
    refine bodyPost_ret (v := .tuple #[.agg #[.int .u64 0, .int .u64 0], .int .i64 3]) (by simp [results, Tryz.results62, go_sem, j0, j1]) rfl ?_
    rw [r.out]
    exact ⟨rfl, (HbB.out.setCell (by simp; omega) _).setCell (by simp; omega) _⟩
  · cases ok2
    · have r : Hid (aroundN (s1, n1, e1) (s2, n2, e2) = (0, 0, 3)) := by show _ = _; rw [HR.out, if_neg (by simp)]
      clear HR
      go_wp2
      refine bodyPost_ret (v := .tuple #[.agg #[.int .u64 0, .int .u64 0], .int .i64 3]) (by simp [results, Tryz.results62, go_sem, j0, j1]) rfl ?_
      rw [r.out]
      exact ⟨rfl, (HbB.out.setCell (by simp; omega) _).setCell (by simp; omega) _⟩
    · have r : Hid (aroundN (s1, n1, e1) (s2, n2, e2) = (a1, a2, 0)) := by show _ = _; rw [HR.out, if_pos ⟨rfl, rfl⟩]
      clear HR
      go_wp2
      refine bodyPost_ret (v := .tuple #[.agg #[.int .u64 (a1 : Int), .int .u64 (a2 : Int)], .int .i64 0]) (by simp [results, Tryz.results62, go_sem, j0, j1]) rfl ?_
      rw [r.out]
      exact ⟨rfl, (HbB.out.setCell (by simp; omega) _).setCell (by simp; omega) _⟩
end Go.Proofs.YtonhpkigoplmaaaGreatDoor
namespace Go.Proofs.YtonhpkigoplmaaaGreatDoor
open Go.RowKit

/-- A whole number. -/
def wholeN (n : Int) : Bool × Nat × Int := (decide (n < 0), n.natAbs, 0)

theorem bl_le {n k : Nat} (h : n < 2 ^ k) : bl n ≤ k := by
  rcases Nat.eq_zero_or_pos n with h0 | h0
  · subst h0; rw [bl_zero]; omega
  · obtain ⟨b1, b2, b3⟩ := bl_bounds h0
    have := (Nat.pow_lt_pow_iff_right (by decide : 1 < 2)).1 (Nat.lt_of_le_of_lt b1 h)
    omega

end Go.Proofs.YtonhpkigoplmaaaGreatDoor
namespace Go.Proofs.YtonhpkigoplmaaaGreatDoor
open Go.RowKit

/-- The word of a rung within the plain floats. -/
def rngW (s : Bool) (r : Int) : Nat × Bool := if 553942754166571008 ≤ r ∧ r ≤ 8660422083433463808 then (r.toNat + (if s then 9223372036854775808 else 0), true) else (0, false)

theorem packN_rung (s : Bool) {m : Nat} {e : Int} (h1 : 4503599627370496 ≤ m) (h2 : m < 9007199254740992) : packN s m e = rngW s ((e + 1074) * 4503599627370496 + m) := by
  unfold packN rngW
  by_cases h : e + 1075 < 123 ∨ 1923 < e + 1075 ∨ (e + 1075 = 1923 ∧ 4503599627370496 < m)
  · rw [if_pos h, if_neg (by omega)]
  · have hc : 553942754166571008 ≤ (e + 1074) * 4503599627370496 + (m : Int) ∧ (e + 1074) * 4503599627370496 + (m : Int) ≤ 8660422083433463808 := by omega
    rw [if_neg h, if_pos hc]
    have : m - 4503599627370496 + (e + 1075).toNat * 4503599627370496 = ((e + 1074) * 4503599627370496 + (m : Int)).toNat := by omega
    rw [this]

/-- The first 53 bits of a number; is something left? -/
def mf (n : Nat) : Nat := if bl n ≤ 53 then n * 2 ^ (53 - bl n) else n / 2 ^ (bl n - 53)
def inex (n : Nat) : Bool := decide (53 < bl n ∧ n % 2 ^ (bl n - 53) ≠ 0)

/-- The rung of n * 2 ^ e, towards 0. -/
def rung (n : Nat) (e : Int) : Int := (e + bl n + 1021) * 4503599627370496 + mf n

theorem mf_bounds {n : Nat} (h0 : 0 < n) : 4503599627370496 ≤ mf n ∧ mf n < 9007199254740992 := by
  unfold mf
  split
  · exact short_bounds h0 (by assumption)
  · exact long_bounds (by omega)

theorem roundN_rung (s : Bool) {n : Nat} (e way : Int) (h0 : n ≠ 0) : roundN s n e way = rngW s (rung n e + if offS s way && inex n then 1 else 0) := by
  have hb := mant_bounds (offS s way) (Nat.pos_of_ne_zero h0)
  unfold roundN
  rw [if_neg h0, packN_rung s hb.1 hb.2]
  congr 1
  generalize offS s way = o
  unfold rung inex mf mant
  by_cases h : bl n ≤ 53
  · simp only [h, if_true, show ¬ 53 < bl n by omega, false_and, decide_false, Bool.and_false, Bool.false_eq_true, if_false]
    omega
  · simp only [h, if_false]
    by_cases hz : n % 2 ^ (bl n - 53) = 0
    · simp only [hz, ne_eq, not_true_eq_false, and_false, if_false, decide_false, Bool.and_false, Bool.false_eq_true]
      omega
    · simp only [hz, ne_eq, not_false_eq_true, and_true, show 53 < bl n by omega, decide_true, Bool.and_true]
      cases o
      · simp only [Bool.false_eq_true, if_false]; omega
      · simp only [if_true]
        split <;> simp only <;> omega

/-- Does the nearest float lie above in amount? -/
def nup (n : Nat) : Bool := decide (53 < bl n) && (decide (2 ^ (bl n - 53) < 2 * (n % 2 ^ (bl n - 53))) || (2 ^ (bl n - 53) == 2 * (n % 2 ^ (bl n - 53)) && (n / 2 ^ (bl n - 53)) % 2 == 1))

theorem bl_log2 {n : Nat} (h : n ≠ 0) : bl n = n.log2 + 1 := by unfold bl; rw [if_neg h]

theorem nearest_rung (s : Bool) {n : Nat} {e : Int} (h0 : n ≠ 0) (h1 : -1021 ≤ e + bl n) (h2 : e + bl n ≤ 1023) :
    Ieee.double.nearest s n e = (rung n e + if nup n then 1 else 0).toNat + (if s then 9223372036854775808 else 0) := by
  have hb := mf_bounds (Nat.pos_of_ne_zero h0)
  have hl := bl_log2 h0
  have hlp : Ieee.double.leastPlace = -1074 := by decide
  have hfb : Ieee.double.fractionBits = 52 := rfl
  have hbi : Ieee.double.binade = 4503599627370496 := by decide
  have hin : Ieee.double.infRung = 9218868437227405312 := by decide
  have hsw : Ieee.double.signWeight = 9223372036854775808 := by decide
  unfold Ieee.Format.nearest
  rw [if_neg h0]
  simp only [hlp, hfb, hbi, hin]
  have hlast : max (e + (n.log2 : Int) - ((52 : Nat) : Int)) (-1074) = e + bl n - 53 := by omega
  rw [hlast]
  have hcut : Ieee.Toward.even.cut s (n <<< (e - (e + (bl n : Int) - 53)).toNat) (e + (bl n : Int) - 53 - e).toNat = mf n + (if nup n then 1 else 0) := by
    rw [show (e - (e + (bl n : Int) - 53)).toNat = 53 - bl n by omega, show (e + (bl n : Int) - 53 - e).toNat = bl n - 53 by omega]
    unfold Ieee.Toward.cut
    by_cases h : bl n ≤ 53
    · have : bl n - 53 = 0 := by omega
      simp only [this, Nat.zero_min, Nat.shiftLeft_zero, Nat.div_one, Nat.mod_one]
      unfold nup mf
      rw [if_pos h]
      simp [show ¬ 53 < bl n by omega, Nat.shiftLeft_eq]
    · have e1 : 53 - bl n = 0 := by omega
      have e2 : min (bl n - 53) (n.log2 + 2) = bl n - 53 := by omega
      simp only [e1, Nat.shiftLeft_zero, e2, Nat.one_shiftLeft]
      unfold nup mf
      rw [if_neg h]
      rw [decide_eq_true (show 53 < bl n by omega), Bool.true_and]
      generalize (decide (2 ^ (bl n - 53) < 2 * (n % 2 ^ (bl n - 53))) || (2 ^ (bl n - 53) == 2 * (n % 2 ^ (bl n - 53)) && (n / 2 ^ (bl n - 53)) % 2 == 1)) = b
      cases b <;> rfl
  rw [hcut]
  have hk : (if nup n = true then (1 : Nat) else 0) ≤ 1 := by split <;> omega
  have hk2 : ((if nup n = true then (1 : Int) else 0)) = (((if nup n = true then (1 : Nat) else 0) : Nat) : Int) := by split <;> rfl
  rw [hk2]
  generalize (if nup n = true then (1 : Nat) else 0) = k at *
  have hr : rung n e = (e + bl n + 1021) * 4503599627370496 + mf n := rfl
  rw [hr]
  generalize mf n = m at *
  generalize bl n = B at *
  unfold Ieee.Format.word
  rw [hsw]
  obtain ⟨T, hT⟩ : ∃ T : Nat, e + B + 1021 = (T : Int) := ⟨(e + B + 1021).toNat, by omega⟩
  rw [show e + (B : Int) - 53 - -1074 = (T : Int) by omega, hT, Int.toNat_natCast]
  have hT2 : T ≤ 2044 := by omega
  have hcast : (T : Int) * 4503599627370496 + (m : Int) + (k : Int) = ((T * 4503599627370496 + (m + k) : Nat) : Int) := by
    rw [Int.natCast_add, Int.natCast_mul, Int.natCast_add, Int.add_assoc]; rfl
  rw [hcast, Int.toNat_natCast, Nat.min_eq_left (by omega)]
  cases s
  · rw [if_neg Bool.false_ne_true, if_neg Bool.false_ne_true, Nat.add_zero]
  · rw [if_pos rfl, if_pos rfl, Nat.add_comm]
end Go.Proofs.YtonhpkigoplmaaaGreatDoor
namespace Go.Proofs.YtonhpkigoplmaaaGreatDoor
open Go.RowKit Go.Extern Ieee

/-- The word of a sign and a rung. -/
def wd (s : Bool) (r : Nat) : Nat := r + (if s then 9223372036854775808 else 0)

theorem wd_lt {s : Bool} {r : Nat} (h : r < 9223372036854775808) : wd s r < 18446744073709551616 := by
  unfold wd; split <;> omega

theorem read_wd {s : Bool} {r : Nat} (h : r < 9218868437227405312) (h0 : 0 < r) : ∃ n e, 0 < n ∧ double.read (wd s r) = .number s n e := by
  have hsw : double.signWeight = 9223372036854775808 := rfl
  have hbn : double.binade = 4503599627370496 := rfl
  have hir : double.infRung = 9218868437227405312 := rfl
  have hlp : double.leastPlace = -1074 := rfl
  have hm : wd s r % 9223372036854775808 = r := by unfold wd; split <;> omega
  have hd : (wd s r / 9223372036854775808 % 2 == 1) = s := by
    unfold wd
    cases s
    · rw [if_neg Bool.false_ne_true, show (r + 0) / 9223372036854775808 % 2 = 0 by omega]; rfl
    · rw [if_pos rfl, show (r + 9223372036854775808) / 9223372036854775808 % 2 = 1 by omega]; rfl
  unfold Format.read
  simp only [hsw, hbn, hir, hlp, hm, hd]
  by_cases hs : r < 4503599627370496
  · rw [if_pos hs]; exact ⟨_, _, h0, rfl⟩
  · rw [if_neg hs, if_pos h]; exact ⟨_, _, by omega, rfl⟩

theorem ord_self {s : Bool} {r : Nat} (h : r < 9218868437227405312) (h0 : 0 < r) : (FloatKind.f64.format.order (wd s r) (wd s r) == some Ordering.eq) = true := by
  obtain ⟨n, e, hn, hr⟩ := read_wd (s := s) h h0
  show (double.order _ _ == _) = _
  unfold Format.order
  rw [hr]
  simp only [Datum.order]
  rw [cmp_eq' rfl]; rfl

theorem ord_zero {s : Bool} {r : Nat} (h : r < 9218868437227405312) (h0 : 0 < r) : FloatKind.f64.format.order (wd s r) 0 = some (if s then .lt else .gt) := by
  obtain ⟨n, e, hn, hr⟩ := read_wd (s := s) h h0
  show double.order _ _ = _
  unfold Format.order
  have hz : double.read 0 = .number false 0 (-1074) := rfl
  rw [hr, hz]
  simp only [Datum.order, signed_eq, Nat.zero_mul, sg_zero]
  have hpos : 0 < n * 2 ^ (e - min e (-1074)).toNat := Nat.mul_pos hn (Nat.two_pow_pos _)
  generalize n * 2 ^ (e - min e (-1074)).toNat = m at *
  cases s
  · rw [cmp_gt' (by simp [sg]; omega)]; rfl
  · rw [cmp_lt' (by simp [sg]; omega)]; rfl

theorem ord_inf {s : Bool} {r : Nat} (h : r < 9218868437227405312) (h0 : 0 < r) : FloatKind.f64.format.order (wd s r) 9218868437227405312 = some .lt ∧ FloatKind.f64.format.order 9218868437227405312 (wd s r) = some .gt := by
  obtain ⟨n, e, hn, hr⟩ := read_wd (s := s) h h0
  show double.order _ _ = _ ∧ double.order _ _ = _
  unfold Format.order
  rw [hr, read_inf]
  exact ⟨rfl, rfl⟩

theorem read_ninf : double.read 18442240474082181120 = .infinity true := rfl

theorem ord_ninf {s : Bool} {r : Nat} (h : r < 9218868437227405312) (h0 : 0 < r) : FloatKind.f64.format.order (wd s r) 18442240474082181120 = some .gt ∧ FloatKind.f64.format.order 18442240474082181120 (wd s r) = some .lt := by
  obtain ⟨n, e, hn, hr⟩ := read_wd (s := s) h h0
  show double.order _ _ = _ ∧ double.order _ _ = _
  unfold Format.order
  rw [hr, read_ninf]
  exact ⟨rfl, rfl⟩

theorem ord_inf_self : (FloatKind.f64.format.order 9218868437227405312 9218868437227405312 == some Ordering.eq) = true := rfl
theorem ord_ninf_self : (FloatKind.f64.format.order 18442240474082181120 18442240474082181120 == some Ordering.eq) = true := rfl

theorem isNaN_any (b : Nat) (w : World) (h : (FloatKind.f64.format.order b b == some Ordering.eq) = true) : Calls Tryz.prog 180 #[.float .f64 b] w fun e w' => e = .returned (.bool false) ∧ w' = w := by
  go_enter Tryz.func180, Tryz.ntmps180
  go_wp2
  go_ret
  refine ⟨?_, rfl⟩
  show Ending.returned (.bool (_ != _)) = _
  rw [bne, h]; rfl

theorem inf_up (w : World) : Calls Tryz.prog 173 #[.int .i64 1] w fun e w' => e = .returned (.float .f64 9218868437227405312) ∧ w' = w := by
  have h93 := @run_callFunc_extern Tryz.prog 113 _ MathFloatBits.float64frombits Tryz.func113 (by kernel_rfl) (by kernel_rfl) (by kernel_rfl) (by kernel_rfl)
  have cf : ∀ w, (MathFloatBits.float64frombits #[.int .u64 9218868437227405312]).run Tryz.prog w = .ok (.float .f64 9218868437227405312) w := fun w => c_from 9218868437227405312 w
  go_enter Tryz.func173, Tryz.ntmps173
  go_wp2
  go_ret
  exact ⟨rfl, rfl⟩

theorem inf_down (w : World) : Calls Tryz.prog 173 #[.int .i64 (-1)] w fun e w' => e = .returned (.float .f64 18442240474082181120) ∧ w' = w := by
  have h93 := @run_callFunc_extern Tryz.prog 113 _ MathFloatBits.float64frombits Tryz.func113 (by kernel_rfl) (by kernel_rfl) (by kernel_rfl) (by kernel_rfl)
  have cf : ∀ w, (MathFloatBits.float64frombits #[.int .u64 18442240474082181120]).run Tryz.prog w = .ok (.float .f64 18442240474082181120) w := fun w => c_from 18442240474082181120 w
  go_enter Tryz.func173, Tryz.ntmps173
  go_wp2
  go_ret
  exact ⟨rfl, rfl⟩

/-- The float next to one that is not 0: farther off 0, or nearer to it. -/
theorem next_any (s u : Bool) (r y : Nat) (w : World) (h : r < 9218868437227405312) (h0 : 0 < r) (hy : y = if u then 9218868437227405312 else 18442240474082181120) :
    Calls Tryz.prog 172 #[.float .f64 (wd s r), .float .f64 y] w fun e w' => e = .returned (.float .f64 (wd s (if s = u then r - 1 else r + 1))) ∧ w' = w := by
  have h89 := @run_callFunc_extern Tryz.prog 99 _ MathFloatBits.float64bits Tryz.func99 (by kernel_rfl) (by kernel_rfl) (by kernel_rfl) (by kernel_rfl)
  have h93 := @run_callFunc_extern Tryz.prog 113 _ MathFloatBits.float64frombits Tryz.func113 (by kernel_rfl) (by kernel_rfl) (by kernel_rfl) (by kernel_rfl)
  have cb := c_bits (wd s r)
  have cu : Hid (∀ w, (MathFloatBits.float64frombits #[.int .u64 ((wd s r : Int) + 1)]).run Tryz.prog w = .ok (.float .f64 (wd s (r + 1))) w) := by
    intro w
    rw [show (wd s r : Int) + 1 = ((wd s (r + 1) : Nat) : Int) by unfold wd; omega]
    exact c_from _ w
  have cd : Hid (∀ w, (MathFloatBits.float64frombits #[.int .u64 ((wd s r : Int) - 1)]).run Tryz.prog w = .ok (.float .f64 (wd s (r - 1))) w) := by
    intro w
    rw [show (wd s r : Int) - 1 = ((wd s (r - 1) : Nat) : Int) by unfold wd; omega]
    exact c_from _ w
  have hN := ord_self (s := s) h h0
  have hz := ord_zero (s := s) h h0
  have hi := ord_inf (s := s) h h0
  have hni := ord_ninf (s := s) h h0
  have hb1 : wd s r < 18446744073709551615 := by unfold wd; split <;> omega
  have hb2 : 0 < wd s r := by unfold wd; split <;> omega
  have HN : Hid ((FloatKind.f64.format.order (wd s r) (wd s r) == some Ordering.eq) = true) := hN
  clear hN h h0
  generalize wd s r = b at *
  cases u
  · obtain rfl : y = 18442240474082181120 := hy
    obtain ⟨e1, e2⟩ := hni
    clear hi
    go_enter Tryz.func172, Tryz.ntmps172
    go_wp2_with fail
    refine (isNaN_any b w HN.out).mono ?_
    rintro e w' ⟨rfl, rfl⟩
    go_wp2_with fail
    refine (isNaN_any _ _ ord_ninf_self).mono ?_
    rintro e w' ⟨rfl, rfl⟩
    cases s
    · have hz0 : FloatKind.f64.format.order b 0 = some Ordering.gt := hz
      have cu := cu.out
      have cd := cd.out
      clear hz
      go_wp2
      go_ret
      exact ⟨rfl, rfl⟩
    · have hz0 : FloatKind.f64.format.order b 0 = some Ordering.lt := hz
      have cu := cu.out
      have cd := cd.out
      clear hz
      go_wp2
      go_ret
      exact ⟨rfl, rfl⟩
  · obtain rfl : y = 9218868437227405312 := hy
    obtain ⟨e1, e2⟩ := hi
    clear hni
    go_enter Tryz.func172, Tryz.ntmps172
    go_wp2_with fail
    refine (isNaN_any b w HN.out).mono ?_
    rintro e w' ⟨rfl, rfl⟩
    go_wp2_with fail
    refine (isNaN_any _ _ ord_inf_self).mono ?_
    rintro e w' ⟨rfl, rfl⟩
    cases s
    · have hz0 : FloatKind.f64.format.order b 0 = some Ordering.gt := hz
      have cu := cu.out
      have cd := cd.out
      clear hz
      go_wp2
      go_ret
      exact ⟨rfl, rfl⟩
    · have hz0 : FloatKind.f64.format.order b 0 = some Ordering.lt := hz
      have cu := cu.out
      have cd := cd.out
      clear hz
      go_wp2
      go_ret
      exact ⟨rfl, rfl⟩
end Go.Proofs.YtonhpkigoplmaaaGreatDoor
namespace Go.Proofs.YtonhpkigoplmaaaGreatDoor
open Go.RowKit Go.Extern Ieee
attribute [local go_sem] run_store_float

theorem aroundF_eq (b q : Nat) (w : World) (hq : FloatKind.f64.format.order q 0 = some .eq) :
    Calls Tryz.prog 141 #[.float .f64 b, .float .f64 q] w fun e w' => e = .returned (.agg #[.float .f64 b, .float .f64 b]) ∧ Below w.heap.size w w' := by
  go_enter Tryz.func141, Tryz.ntmps141
  go_wp2
  refine bodyPost_ret (v := .agg #[.float .f64 b, .float .f64 b]) (by simp [results, Tryz.results141, go_sem]) rfl ?_
  exact ⟨rfl, (Below.refl _ _).alloc (Nat.le_refl _) _⟩

theorem aroundF_pos (s : Bool) (r q : Nat) (w : World) (hq : FloatKind.f64.format.order q 0 = some .gt) (h : r < 9218868437227405312) (h0 : 0 < r) :
    Calls Tryz.prog 141 #[.float .f64 (wd s r), .float .f64 q] w fun e w' => e = .returned (.agg #[.float .f64 (wd s r), .float .f64 (wd s (if s = true then r - 1 else r + 1))]) ∧ Below w.heap.size w w' := by
  have HN : Hid (∀ w, Calls Tryz.prog 172 #[.float .f64 (wd s r), .float .f64 9218868437227405312] w fun e w' => e = .returned (.float .f64 (wd s (if s = true then r - 1 else r + 1))) ∧ w' = w) := fun w => next_any s true r _ w h h0 rfl
  generalize wd s (if s = true then r - 1 else r + 1) = c at *
  generalize wd s r = b at *
  go_enter Tryz.func141, Tryz.ntmps141
  go_wp2_with fail
  refine (inf_up _).mono ?_
  rintro e w' ⟨rfl, rfl⟩
  go_wp2_with fail
  refine Calls.mono (HN.out _) ?_
  rintro e w' ⟨rfl, rfl⟩
  go_wp2
  refine bodyPost_ret (v := .agg #[.float .f64 b, .float .f64 c]) (by simp [results, Tryz.results141, go_sem]) rfl ?_
  exact ⟨rfl, by (repeat refine Below.setCell ?_ (by simp) _); exact (Below.refl _ _).alloc (Nat.le_refl _) _⟩

theorem aroundF_neg (s : Bool) (r q : Nat) (w : World) (hq : FloatKind.f64.format.order q 0 = some .lt) (h : r < 9218868437227405312) (h0 : 0 < r) :
    Calls Tryz.prog 141 #[.float .f64 (wd s r), .float .f64 q] w fun e w' => e = .returned (.agg #[.float .f64 (wd s (if s = false then r - 1 else r + 1)), .float .f64 (wd s r)]) ∧ Below w.heap.size w w' := by
  have HN : Hid (∀ w, Calls Tryz.prog 172 #[.float .f64 (wd s r), .float .f64 18442240474082181120] w fun e w' => e = .returned (.float .f64 (wd s (if s = false then r - 1 else r + 1))) ∧ w' = w) := fun w => next_any s false r _ w h h0 rfl
  generalize wd s (if s = false then r - 1 else r + 1) = c at *
  generalize wd s r = b at *
  go_enter Tryz.func141, Tryz.ntmps141
  go_wp2_with fail
  refine (inf_down _).mono ?_
  rintro e w' ⟨rfl, rfl⟩
  go_wp2_with fail
  refine Calls.mono (HN.out _) ?_
  rintro e w' ⟨rfl, rfl⟩
  go_wp2
  refine bodyPost_ret (v := .agg #[.float .f64 c, .float .f64 b]) (by simp [results, Tryz.results141, go_sem]) rfl ?_
  exact ⟨rfl, by (repeat refine Below.setCell ?_ (by simp) _); exact (Below.refl _ _).alloc (Nat.le_refl _) _⟩
end Go.Proofs.YtonhpkigoplmaaaGreatDoor
