/-
  encloseref.Round, of the two ways that are no middle.
-/
import Derived.Test.YtonhpkigoplmaaaGreatDoorNumF
namespace Go.Proofs.YtonhpkigoplmaaaGreatDoor
open Go.RowKit

/-- 53 bits of a number, and by how many it was shifted; up: what is left counts as one more. -/
def mant (n : Nat) (up : Bool) : Nat × Int :=
  if bl n ≤ 53 then (n * 2 ^ (53 - bl n), (bl n : Int) - 53)
  else if up = true ∧ n % 2 ^ (bl n - 53) ≠ 0 then
    (if n / 2 ^ (bl n - 53) + 1 = 9007199254740992 then (4503599627370496, (bl n : Int) - 52) else (n / 2 ^ (bl n - 53) + 1, (bl n : Int) - 53))
  else (n / 2 ^ (bl n - 53), (bl n : Int) - 53)

/-- Does this way go off 0? -/
def offS (s : Bool) (way : Int) : Bool := decide (0 < way) && !s || decide (way < 0) && s

/-- What Round gives. -/
def roundN (s : Bool) (n : Nat) (e way : Int) : Nat × Bool :=
  if n = 0 then (0, true) else packN s (mant n (offS s way)).1 (e + (mant n (offS s way)).2)

theorem bl_pos {n : Nat} (h : 0 < n) : 0 < bl n := (bl_bounds h).2.2

theorem bl_eq_zero {n : Nat} : bl n = 0 ↔ n = 0 := by
  constructor
  · intro h
    rcases Nat.eq_zero_or_pos n with h0 | h0
    · exact h0
    · have := bl_pos h0; omega
  · rintro rfl; rfl

theorem bl_of {n k : Nat} (h1 : 2 ^ (k - 1) ≤ n) (h2 : n < 2 ^ k) (hk : 0 < k) : bl n = k := by
  obtain ⟨j, rfl⟩ : ∃ j, k = j + 1 := ⟨k - 1, by omega⟩
  exact bl_unique (by simpa using h1) h2

theorem p52 : (2 : Nat) ^ 52 = 4503599627370496 := rfl
theorem p53 : (2 : Nat) ^ 53 = 9007199254740992 := rfl

/-- A short number, shifted. -/
theorem short_bounds {n : Nat} (h0 : 0 < n) (h : bl n ≤ 53) : 4503599627370496 ≤ n * 2 ^ (53 - bl n) ∧ n * 2 ^ (53 - bl n) < 9007199254740992 := by
  obtain ⟨b1, b2, b3⟩ := bl_bounds h0
  have e1 : (2 : Nat) ^ (bl n - 1) * 2 ^ (53 - bl n) = 4503599627370496 := by rw [← Nat.pow_add, ← p52]; congr 1; omega
  have e2 : (2 : Nat) ^ (bl n) * 2 ^ (53 - bl n) = 9007199254740992 := by rw [← Nat.pow_add, ← p53]; congr 1; omega
  have h1 := Nat.mul_le_mul_right (2 ^ (53 - bl n)) b1
  have h2 := Nat.mul_lt_mul_of_pos_right b2 (Nat.two_pow_pos (53 - bl n))
  rw [e1] at h1
  rw [e2] at h2
  exact ⟨h1, h2⟩

/-- A long number, cut. -/
theorem long_bounds {n : Nat} (h : 53 < bl n) : 4503599627370496 ≤ n / 2 ^ (bl n - 53) ∧ n / 2 ^ (bl n - 53) < 9007199254740992 := by
  have h0 : 0 < n := by
    rcases Nat.eq_zero_or_pos n with h0 | h0
    · subst h0; simp [bl_zero] at h
    · exact h0
  obtain ⟨b1, b2, b3⟩ := bl_bounds h0
  have e1 : 4503599627370496 * (2 : Nat) ^ (bl n - 53) = 2 ^ (bl n - 1) := by rw [← p52, ← Nat.pow_add]; congr 1; omega
  have e2 : 9007199254740992 * (2 : Nat) ^ (bl n - 53) = 2 ^ (bl n) := by rw [← p53, ← Nat.pow_add]; congr 1; omega
  constructor
  · exact (Nat.le_div_iff_mul_le (Nat.two_pow_pos _)).2 (by rw [e1]; exact b1)
  · exact (Nat.div_lt_iff_lt_mul (Nat.two_pow_pos _)).2 (by rw [e2]; exact b2)

theorem bl53 {q : Nat} (h1 : 4503599627370496 ≤ q) (h2 : q < 9007199254740992) : bl q = 53 := bl_of (by rw [show 53 - 1 = 52 by rfl, p52]; exact h1) (by rw [p53]; exact h2) (by decide)
theorem bl54 : bl 9007199254740992 = 54 := bl_of (by rw [show 54 - 1 = 53 by rfl, p53]; exact Nat.le_refl _) (by decide) (by decide)

theorem mant_bounds {n : Nat} (up : Bool) (h0 : 0 < n) : 4503599627370496 ≤ (mant n up).1 ∧ (mant n up).1 < 9007199254740992 := by
  unfold mant
  split
  · exact short_bounds h0 (by assumption)
  · have := long_bounds (n := n) (by omega)
    split
    · split <;> simp <;> omega
    · exact this

theorem len_of_bl (n : Nat) : (digits n).length ≤ bl n / 24 + 1 := by
  rcases Nat.eq_zero_or_pos n with h0 | h0
  · subst h0; simp [digits_zero]
  · exact len_of_lt2 (bl_bounds h0).2.1

/-- What the walks leave. -/
def RoundR (s : Bool) (n : Nat) (e way : Int) (w : World) (ev : Ending) (w' : World) : Prop :=
  ev = .returned (.tuple #[.int .u64 ((roundN s n e way).1 : Int), .bool (roundN s n e way).2]) ∧ Below w.heap.size w w'

theorem round_fin {s : Bool} {n m : Nat} {e e' way : Int} {w wm w2 : World} (r : roundN s n e way = packN s m e') (h1 : Below w.heap.size w wm) (h2 : Below wm.heap.size wm w2) :
    RoundR s n e way w (.returned (.tuple #[.int .u64 ((packN s m e').1 : Int), .bool (packN s m e').2])) w2 := ⟨by rw [r], h1.trans (h2.mono h1.size)⟩

set_option maxHeartbeats 1000000 in
set_option maxRecDepth 100000 in
theorem round_short (x : Value) (s : Bool) (n : Nat) (e way : Int) (w : World) (hx : NumV w x s n e) (hn : bl n ≤ 53) (he1 : -200000 ≤ e) (he2 : e ≤ 200000) :
    Calls Tryz.prog 115 #[x, .int .i64 way] w fun ev w' => RoundR s n e way w ev w' := by
  obtain ⟨ao, la, ca, rfl, hl1, hN⟩ := hx
  have hlen := len_of_bl n
  have HL : Hid (la = (digits n).length) := hl1
  clear hl1
  go_enter Tryz.func115, Tryz.ntmps115
  go_wp2_with fail
  have hW : Below w.heap.size w (w.alloc (Obj.cells #[Value.bool s, Value.slice ao la ca, Value.int IntKind.i64 e] 92)) := (Below.refl _ _).alloc (Nat.le_refl _) _
  refine (size_any n _ _ (hN.below hW (Nat.le_refl _)) (by omega)).mono ?_
  rintro ev w1 ⟨rfl, rfl⟩
  obtain ⟨k00, k01, k02, k03, k04, k05⟩ := blk3 (blk_new w (Obj.cells #[Value.bool s, Value.slice ao la ca, Value.int IntKind.i64 e] 92))
  have HN : Hid (NatV (w.alloc (Obj.cells #[Value.bool s, Value.slice ao la ca, Value.int IntKind.i64 e] 92)) (.slice ao la ca) n) := hN.below hW (Nat.le_refl _)
  have HW : Hid (Below w.heap.size w (w.alloc (Obj.cells #[Value.bool s, Value.slice ao la ca, Value.int IntKind.i64 e] 92))) := hW
  clear hN hW
  by_cases h0 : n = 0
  · have r : Hid (roundN s n e way = (0, true)) := by show _ = _; unfold roundN; rw [if_pos h0]
    have hb0 : bl n = 0 := bl_eq_zero.2 h0
    have HR : Hid (RoundR s n e way w = fun ev w' => ev = .returned (.tuple #[.int .u64 ((roundN s n e way).1 : Int), .bool (roundN s n e way).2]) ∧ Below w.heap.size w w') := rfl
    rw [hb0]
    go_wp2
    go_ret2
    rw [HR.out]
    exact ⟨by rw [r.out]; rfl, HW.out⟩
  · have hb0 : bl n ≠ 0 := fun h => h0 (bl_eq_zero.1 h)
    have r : Hid (roundN s n e way = packN s (n * 2 ^ (53 - bl n)) (e + ((bl n : Int) - 53))) := by show _ = _; unfold roundN mant; rw [if_neg h0, if_pos hn]
    have HB : Hid _ := short_bounds (by omega) hn
    have HLN : Hid ((digits n).length ≤ 500000) := by show _ ≤ _; omega
    have HR : Hid (RoundR s n e way w = fun ev w' => ev = .returned (.tuple #[.int .u64 ((roundN s n e way).1 : Int), .bool (roundN s n e way).2]) ∧ Below w.heap.size w w') := rfl
    generalize bl n = B at *
    clear hlen h0
    have t0 : ((B : Int) == 0) = false := by rw [beq_eq_false_iff_ne]; omega
    rcases (show B = 53 ∨ B < 53 by omega) with hb | hb
    · subst hb
      clear t0
      go_wp2_with fail
      refine (packed_any s n e _ _ HN.out (by have := HB.out; simp at this; omega) (by have := HB.out; simp at this; omega) (by omega) (by omega)).mono ?_
      rintro ev w2 ⟨rfl, hb2⟩
      have HB2 : Hid (Below _ _ w2) := hb2
      clear hb2
      go_wp2
      go_ret2
      refine round_fin (m := n) (e' := e) ?_ HW.out HB2.out
      rw [r.out, Nat.sub_self, Nat.pow_zero, Nat.mul_one, show e + (((53 : Nat) : Int) - 53) = e by omega]
    · have hc : (53 : Int) - (B : Int) = ((53 - B : Nat) : Int) := by omega
      have t1 : ((B : Int) == 54) = false := by rw [beq_eq_false_iff_ne]; omega
      have HQ : Hid (e + ((B : Int) - 53) = e - ((53 - B : Nat) : Int)) := by show _ = _; omega
      go_wp2_with fail
      refine (up_any n (53 - B) _ _ HN.out HLN.out (by omega)).mono ?_
      rintro ev w2 ⟨v2, rfl, hN2, hb2⟩
      obtain ⟨ao2, la2, ca2, rfl, HL2⟩ := hN2.slice2
      have HB2 : Hid (Below _ _ w2) := hb2
      have HN2 : Hid (NatV w2 _ _) := hN2
      obtain ⟨j00, j01, j02, j03, j04, j05⟩ := blk3 (blk_below (blk_new w (Obj.cells #[Value.bool s, Value.slice ao la ca, Value.int IntKind.i64 e] 92)) hb2)
      clear hb2 hN2 k00 k01 k02 k03 k04 k05
      go_wp2_with fail
      refine (packed_any s (n * 2 ^ (53 - B)) (e - ((53 - B : Nat) : Int)) _ _ HN2.out HB.out.1 HB.out.2 (by omega) (by omega)).mono ?_
      rintro ev w3 ⟨rfl, hb3⟩
      have HB3 : Hid (Below _ _ w3) := hb3
      clear hb3
      go_wp2
      go_ret2
      refine round_fin (m := n * 2 ^ (53 - B)) (e' := e - ((53 - B : Nat) : Int)) ?_ (HW.out.trans (HB2.out.mono HW.out.size)) HB3.out
      rw [r.out, HQ.out]

set_option maxHeartbeats 1000000 in
set_option maxRecDepth 100000 in
theorem round_long (x : Value) (s : Bool) (n : Nat) (e way : Int) (w : World) (hx : NumV w x s n e) (hw : way = 1 ∨ way = -1) (hn : 53 < bl n) (hn2 : bl n ≤ 100000) (he1 : -200000 ≤ e) (he2 : e ≤ 200000) :
    Calls Tryz.prog 115 #[x, .int .i64 way] w fun ev w' => RoundR s n e way w ev w' := by
  obtain ⟨ao, la, ca, rfl, hl1, hN⟩ := hx
  have hlen := len_of_bl n
  have HL : Hid (la = (digits n).length) := hl1
  have hW : Below w.heap.size w (w.alloc (Obj.cells #[Value.bool s, Value.slice ao la ca, Value.int IntKind.i64 e] 92)) := (Below.refl _ _).alloc (Nat.le_refl _) _
  have HN : Hid (NatV (w.alloc (Obj.cells #[Value.bool s, Value.slice ao la ca, Value.int IntKind.i64 e] 92)) (.slice ao la ca) n) := hN.below hW (Nat.le_refl _)
  have HW : Hid (Below w.heap.size w (w.alloc (Obj.cells #[Value.bool s, Value.slice ao la ca, Value.int IntKind.i64 e] 92))) := hW
  have HLB : Hid _ := long_bounds hn
  have HLN : Hid ((digits n).length ≤ 500000) := by show _ ≤ _; omega
  have H0 : Hid (n ≠ 0) := by show _ ≠ _; rintro rfl; simp [bl_zero] at hn
  have HR : Hid (∀ o, offS s way = o → roundN s n e way = packN s (mant n o).1 (e + (mant n o).2)) := by
    intro o ho; subst ho; unfold roundN; rw [if_neg H0.out]
  have HM1 : Hid (∀ o, (o = true ∧ n % 2 ^ (bl n - 53) ≠ 0) → n / 2 ^ (bl n - 53) + 1 = 9007199254740992 → mant n o = (4503599627370496, (bl n : Int) - 52)) := by
    intro o h1 h2; unfold mant; rw [if_neg (by omega), if_pos h1, if_pos h2]
  have HM2 : Hid (∀ o, (o = true ∧ n % 2 ^ (bl n - 53) ≠ 0) → ¬ n / 2 ^ (bl n - 53) + 1 = 9007199254740992 → mant n o = (n / 2 ^ (bl n - 53) + 1, (bl n : Int) - 53)) := by
    intro o h1 h2; unfold mant; rw [if_neg (by omega), if_pos h1, if_neg h2]
  have HM3 : Hid (∀ o, ¬ (o = true ∧ n % 2 ^ (bl n - 53) ≠ 0) → mant n o = (n / 2 ^ (bl n - 53), (bl n : Int) - 53)) := by
    intro o h1; unfold mant; rw [if_neg (by omega), if_neg h1]
  have HS : Hid (Calls Tryz.prog 161 #[.slice ao la ca] (w.alloc (Obj.cells #[Value.bool s, Value.slice ao la ca, Value.int IntKind.i64 e] 92)) fun ev w' => ev = .returned (.int .i64 (bl n : Int)) ∧ w' = w.alloc (Obj.cells #[Value.bool s, Value.slice ao la ca, Value.int IntKind.i64 e] 92)) := size_any n (.slice ao la ca) _ HN.out (by omega)
  clear hl1 hN hW hlen
  generalize bl n = B at *
  obtain ⟨k, rfl⟩ : ∃ k, B = k + 53 := ⟨B - 53, by omega⟩
  simp only [Nat.add_sub_cancel] at HLB HM1 HM2 HM3
  go_enter Tryz.func115, Tryz.ntmps115
  go_wp2_with fail
  refine Calls.mono HS.out ?_
  rintro ev w1 ⟨rfl, rfl⟩
  obtain ⟨k00, k01, k02, k03, k04, k05⟩ := blk3 (blk_new w (Obj.cells #[Value.bool s, Value.slice ao la ca, Value.int IntKind.i64 e] 92))
  have t0 : (((k + 53 : Nat) : Int) == 0) = false := by rw [beq_eq_false_iff_ne]; omega
  have t2 : ((k + 53 : Nat) : Int) - 53 = (k : Int) := by omega
  go_wp2_with fail
  refine (down_any n k _ _ HN.out (by have := HLN.out; omega) (by omega)).mono ?_
  rintro ev w2 ⟨v2, rfl, hN2, hb2⟩
  obtain ⟨ao2, la2, ca2, rfl, HL2⟩ := hN2.slice2
  have HB2 : Hid (Below w.heap.size w w2) := HW.out.trans (hb2.mono HW.out.size)
  have HN2 : Hid (NatV w2 _ _) := hN2
  obtain ⟨j00, j01, j02, j03, j04, j05⟩ := blk3 (blk_below (blk_new w (Obj.cells #[Value.bool s, Value.slice ao la ca, Value.int IntKind.i64 e] 92)) hb2)
  have HBK : Hid (w2.heap[w.heap.size]? = _) := blk_below (blk_new w (Obj.cells #[Value.bool s, Value.slice ao la ca, Value.int IntKind.i64 e] 92)) hb2
  have hlq := len_of_bl (n / 2 ^ k)
  rw [bl53 HLB.out.1 HLB.out.2] at hlq
  have HLQ : Hid ((digits (n / 2 ^ k)).length ≤ 3) := hlq
  have HS2 : Hid (bl (n / 2 ^ k) = 53) := bl53 HLB.out.1 HLB.out.2
  clear hb2 hN2 hlq k00 k01 k02 k03 k04 k05 HS HN HW HLN H0 t0 t2
  by_cases hz : n % 2 ^ k = 0
  · rw [decide_eq_true hz]
    have FIN : Hid (roundN s n e way = packN s (n / 2 ^ k) (e + (k : Int))) := by
      show _ = _
      rw [HR.out _ rfl, HM3.out _ (fun h => h.2 hz)]; congr 1; omega
    clear HR HM1 HM2 HM3 hz
    rcases hw with rfl | rfl <;> cases s
    all_goals
      go_wp2_with fail
      refine (size_any _ _ _ HN2.out (by have := HLQ.out; omega)).mono ?_
      rintro ev w3 ⟨rfl, rfl⟩
      rw [HS2.out]
      go_wp2_with fail
      refine (packed_any _ (n / 2 ^ k) (e + (k : Int)) _ _ HN2.out HLB.out.1 HLB.out.2 (by omega) (by omega)).mono ?_
      rintro ev w4 ⟨rfl, hb4⟩
      have HB4 : Hid (Below _ _ w4) := hb4
      clear hb4
      go_wp2
      go_ret2
      exact round_fin FIN.out HB2.out HB4.out
  · rw [decide_eq_false hz]
    have HZ : Hid (n % 2 ^ k ≠ 0) := hz
    clear hz
    rcases hw with rfl | rfl <;> cases s
    · have FIN : Hid (n / 2 ^ k + 1 = 9007199254740992 ∧ roundN false n e (1) = packN false 4503599627370496 (e + (k : Int) + 1) ∨ ¬ n / 2 ^ k + 1 = 9007199254740992 ∧ roundN false n e (1) = packN false (n / 2 ^ k + 1) (e + (k : Int))) := by
        show _ ∨ _
        by_cases hq : n / 2 ^ k + 1 = 9007199254740992
        · refine Or.inl ⟨hq, ?_⟩
          rw [HR.out true rfl, HM1.out _ ⟨rfl, HZ.out⟩ hq]; congr 1; omega
        · refine Or.inr ⟨hq, ?_⟩
          rw [HR.out true rfl, HM2.out _ ⟨rfl, HZ.out⟩ hq]; congr 1; omega
      clear HR HM1 HM2 HM3 HZ
      go_wp2_with fail
      refine (nat_any 1 _ (by omega)).mono ?_
      rintro ev w3 ⟨v3, rfl, hN3, hb3⟩
      obtain ⟨ao3, la3, ca3, rfl, HL3⟩ := hN3.slice2
      have HN3 : Hid (NatV w3 _ _) := hN3
      have HB3 : Hid (Below _ w2 w3) := hb3
      clear hb3 hN3
      go_wp2_with fail
      refine (plus_any (n / 2 ^ k) 1 _ _ _ (HN2.out.below HB3.out (Nat.le_refl _)) HN3.out (by have := HLQ.out; omega) (by decide)).mono ?_
      rintro ev w4 ⟨v4, rfl, hN4, hb4⟩
      obtain ⟨ao4, la4, ca4, rfl, HL4⟩ := hN4.slice2
      have HBK4 : Hid (w4.heap[w.heap.size]? = _) := blk_below (blk_below HBK.out HB3.out) hb4
      have HN4 : Hid (NatV w4 _ _) := hN4
      have HB4 : Hid (Below w.heap.size w w4) := (HB2.out.trans (HB3.out.mono HB2.out.size)).trans (hb4.mono (HB2.out.trans (HB3.out.mono HB2.out.size)).size)
      obtain ⟨i00, i01, i02, i03, i04, i05⟩ := blk3 HBK4.out
      clear hb4 hN4 HBK HN3 HN2 HB3 HB2 j00 j01 j02 j03 j04 j05
      go_wp2_with fail
      rcases FIN.out with ⟨hq, hr⟩ | ⟨hq, hr⟩
      · have FIN2 : Hid (roundN _ n e _ = packN _ 4503599627370496 (e + (k : Int) + 1)) := hr
        clear FIN hr
        rw [hq] at HN4
        refine (size_any 9007199254740992 _ _ HN4.out (by decide)).mono ?_
        rintro ev w5 ⟨rfl, rfl⟩
        rw [bl54]
        go_wp2_with fail
        refine (down_any 9007199254740992 1 _ _ HN4.out (by decide) (by decide)).mono ?_
        rintro ev w5 ⟨v5, rfl, hN5, hb5⟩
        obtain ⟨ao5, la5, ca5, rfl, HL5⟩ := hN5.slice2
        have HN5 : Hid (NatV w5 _ 4503599627370496) := hN5
        obtain ⟨l00, l01, l02, l03, l04, l05⟩ := blk3 (blk_below HBK4.out hb5)
        have HB5 : Hid (Below w.heap.size w w5) := HB4.out.trans (hb5.mono HB4.out.size)
        clear hb5 hN5 i00 i01 i02 i03 i04 i05
        go_wp2_with fail
        refine (packed_any _ 4503599627370496 (e + (k : Int) + 1) _ _ HN5.out (by decide) (by decide) (by omega) (by omega)).mono ?_
        rintro ev w6 ⟨rfl, hb6⟩
        have HB6 : Hid (Below _ _ w6) := hb6
        clear hb6
        go_wp2
        go_ret2
        exact round_fin FIN2.out HB5.out HB6.out
      · have FIN2 : Hid (roundN _ n e _ = packN _ (n / 2 ^ k + 1) (e + (k : Int))) := hr
        have q1 : Hid (n / 2 ^ k + 1 < 9007199254740992) := by show _ < _; have := HLB.out.2; omega
        have q2 : Hid (4503599627370496 ≤ n / 2 ^ k + 1) := by show _ ≤ _; have := HLB.out.1; omega
        have hlq := len_of_bl (n / 2 ^ k + 1)
        rw [bl53 q2.out q1.out] at hlq
        clear FIN hr hq
        refine (size_any (n / 2 ^ k + 1) _ _ HN4.out (by omega)).mono ?_
        clear hlq
        rintro ev w5 ⟨rfl, rfl⟩
        rw [bl53 q2.out q1.out]
        go_wp2_with fail
        refine (packed_any _ (n / 2 ^ k + 1) (e + (k : Int)) _ _ HN4.out q2.out q1.out (by omega) (by omega)).mono ?_
        rintro ev w6 ⟨rfl, hb6⟩
        have HB6 : Hid (Below _ _ w6) := hb6
        clear hb6
        go_wp2
        go_ret2
        exact round_fin FIN2.out HB4.out HB6.out
    · have FIN : Hid (roundN true n e (1) = packN true (n / 2 ^ k) (e + (k : Int))) := by
        show _ = _
        rw [HR.out false rfl, HM3.out _ (fun h => by simp at h)]; congr 1; omega
      clear HR HM1 HM2 HM3 HZ
      go_wp2_with fail
      refine (size_any _ _ _ HN2.out (by have := HLQ.out; omega)).mono ?_
      rintro ev w3 ⟨rfl, rfl⟩
      rw [HS2.out]
      go_wp2_with fail
      refine (packed_any _ (n / 2 ^ k) (e + (k : Int)) _ _ HN2.out HLB.out.1 HLB.out.2 (by omega) (by omega)).mono ?_
      rintro ev w4 ⟨rfl, hb4⟩
      have HB4 : Hid (Below _ _ w4) := hb4
      clear hb4
      go_wp2
      go_ret2
      exact round_fin FIN.out HB2.out HB4.out
    · have FIN : Hid (roundN false n e (-1) = packN false (n / 2 ^ k) (e + (k : Int))) := by
        show _ = _
        rw [HR.out false rfl, HM3.out _ (fun h => by simp at h)]; congr 1; omega
      clear HR HM1 HM2 HM3 HZ
      go_wp2_with fail
      refine (size_any _ _ _ HN2.out (by have := HLQ.out; omega)).mono ?_
      rintro ev w3 ⟨rfl, rfl⟩
      rw [HS2.out]
      go_wp2_with fail
      refine (packed_any _ (n / 2 ^ k) (e + (k : Int)) _ _ HN2.out HLB.out.1 HLB.out.2 (by omega) (by omega)).mono ?_
      rintro ev w4 ⟨rfl, hb4⟩
      have HB4 : Hid (Below _ _ w4) := hb4
      clear hb4
      go_wp2
      go_ret2
      exact round_fin FIN.out HB2.out HB4.out
    · have FIN : Hid (n / 2 ^ k + 1 = 9007199254740992 ∧ roundN true n e (-1) = packN true 4503599627370496 (e + (k : Int) + 1) ∨ ¬ n / 2 ^ k + 1 = 9007199254740992 ∧ roundN true n e (-1) = packN true (n / 2 ^ k + 1) (e + (k : Int))) := by
        show _ ∨ _
        by_cases hq : n / 2 ^ k + 1 = 9007199254740992
        · refine Or.inl ⟨hq, ?_⟩
          rw [HR.out true rfl, HM1.out _ ⟨rfl, HZ.out⟩ hq]; congr 1; omega
        · refine Or.inr ⟨hq, ?_⟩
          rw [HR.out true rfl, HM2.out _ ⟨rfl, HZ.out⟩ hq]; congr 1; omega
      clear HR HM1 HM2 HM3 HZ
      go_wp2_with fail
      refine (nat_any 1 _ (by omega)).mono ?_
      rintro ev w3 ⟨v3, rfl, hN3, hb3⟩
      obtain ⟨ao3, la3, ca3, rfl, HL3⟩ := hN3.slice2
      have HN3 : Hid (NatV w3 _ _) := hN3
      have HB3 : Hid (Below _ w2 w3) := hb3
      clear hb3 hN3
      go_wp2_with fail
      refine (plus_any (n / 2 ^ k) 1 _ _ _ (HN2.out.below HB3.out (Nat.le_refl _)) HN3.out (by have := HLQ.out; omega) (by decide)).mono ?_
      rintro ev w4 ⟨v4, rfl, hN4, hb4⟩
      obtain ⟨ao4, la4, ca4, rfl, HL4⟩ := hN4.slice2
      have HBK4 : Hid (w4.heap[w.heap.size]? = _) := blk_below (blk_below HBK.out HB3.out) hb4
      have HN4 : Hid (NatV w4 _ _) := hN4
      have HB4 : Hid (Below w.heap.size w w4) := (HB2.out.trans (HB3.out.mono HB2.out.size)).trans (hb4.mono (HB2.out.trans (HB3.out.mono HB2.out.size)).size)
      obtain ⟨i00, i01, i02, i03, i04, i05⟩ := blk3 HBK4.out
      clear hb4 hN4 HBK HN3 HN2 HB3 HB2 j00 j01 j02 j03 j04 j05
      go_wp2_with fail
      rcases FIN.out with ⟨hq, hr⟩ | ⟨hq, hr⟩
      · have FIN2 : Hid (roundN _ n e _ = packN _ 4503599627370496 (e + (k : Int) + 1)) := hr
        clear FIN hr
        rw [hq] at HN4
        refine (size_any 9007199254740992 _ _ HN4.out (by decide)).mono ?_
        rintro ev w5 ⟨rfl, rfl⟩
        rw [bl54]
        go_wp2_with fail
        refine (down_any 9007199254740992 1 _ _ HN4.out (by decide) (by decide)).mono ?_
        rintro ev w5 ⟨v5, rfl, hN5, hb5⟩
        obtain ⟨ao5, la5, ca5, rfl, HL5⟩ := hN5.slice2
        have HN5 : Hid (NatV w5 _ 4503599627370496) := hN5
        obtain ⟨l00, l01, l02, l03, l04, l05⟩ := blk3 (blk_below HBK4.out hb5)
        have HB5 : Hid (Below w.heap.size w w5) := HB4.out.trans (hb5.mono HB4.out.size)
        clear hb5 hN5 i00 i01 i02 i03 i04 i05
        go_wp2_with fail
        refine (packed_any _ 4503599627370496 (e + (k : Int) + 1) _ _ HN5.out (by decide) (by decide) (by omega) (by omega)).mono ?_
        rintro ev w6 ⟨rfl, hb6⟩
        have HB6 : Hid (Below _ _ w6) := hb6
        clear hb6
        go_wp2
        go_ret2
        exact round_fin FIN2.out HB5.out HB6.out
      · have FIN2 : Hid (roundN _ n e _ = packN _ (n / 2 ^ k + 1) (e + (k : Int))) := hr
        have q1 : Hid (n / 2 ^ k + 1 < 9007199254740992) := by show _ < _; have := HLB.out.2; omega
        have q2 : Hid (4503599627370496 ≤ n / 2 ^ k + 1) := by show _ ≤ _; have := HLB.out.1; omega
        have hlq := len_of_bl (n / 2 ^ k + 1)
        rw [bl53 q2.out q1.out] at hlq
        clear FIN hr hq
        refine (size_any (n / 2 ^ k + 1) _ _ HN4.out (by omega)).mono ?_
        clear hlq
        rintro ev w5 ⟨rfl, rfl⟩
        rw [bl53 q2.out q1.out]
        go_wp2_with fail
        refine (packed_any _ (n / 2 ^ k + 1) (e + (k : Int)) _ _ HN4.out q2.out q1.out (by omega) (by omega)).mono ?_
        rintro ev w6 ⟨rfl, hb6⟩
        have HB6 : Hid (Below _ _ w6) := hb6
        clear hb6
        go_wp2
        go_ret2
        exact round_fin FIN2.out HB4.out HB6.out

theorem round_any (x : Value) (s : Bool) (n : Nat) (e way : Int) (w : World) (hx : NumV w x s n e) (hw : way = 1 ∨ way = -1) (hn : bl n ≤ 100000) (he1 : -200000 ≤ e) (he2 : e ≤ 200000) :
    Calls Tryz.prog 115 #[x, .int .i64 way] w fun ev w' => RoundR s n e way w ev w' := by
  by_cases h : bl n ≤ 53
  · exact round_short x s n e way w hx h he1 he2
  · exact round_long x s n e way w hx hw (by omega) hn he1 he2
end Go.Proofs.YtonhpkigoplmaaaGreatDoor
