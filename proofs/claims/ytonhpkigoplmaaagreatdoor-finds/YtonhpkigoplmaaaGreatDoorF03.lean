/-
  NumD, NumE, FloatM, Errs, Code, FltA, FltB, NatG, NatH, NumF.
-/
import Derived.Test.YtonhpkigoplmaaaGreatDoorF02
import Derived.Laws.BitsAllLaws
import Ieee.Arith
import Derived.Test.YtonhpkigoplmaaaGreatDoorProg
import Derived.WalkKit
import Derived.LaidEql
import Derived.Stop.Asserts
import Derived.RowKitTokens
import Derived.Outline
import Derived.RegionTactic
import Derived.ChangeAlike
import Derived.BigRegion
namespace Go.Proofs.YtonhpkigoplmaaaGreatDoor
open Go.RowKit

theorem ltc {w : World} {p : Addr} {v : Value} (h : w.cell? p = some v) : p.block < w.heap.size := World.block_lt_of_cell? w p h

/-- What less tells. -/
def lessN (sa : Bool) (na : Nat) (ea : Int) (sb : Bool) (nb : Nat) (eb : Int) : Bool :=
  decide (sgnI (sumN sa na ea (negS sb nb) nb eb).1 (sumN sa na ea (negS sb nb) nb eb).2.1 < 0)

set_option maxHeartbeats 1000000 in
set_option maxRecDepth 100000 in
theorem less_any (xa xb : Value) (sa sb : Bool) (na nb : Nat) (ea eb : Int) (w : World) (ha : NumV w xa sa na ea) (hb : NumV w xb sb nb eb)
    (hla : (digits na).length ≤ 400000) (hlb : (digits nb).length ≤ 400000) (he1 : -400000 ≤ ea) (he2 : ea ≤ 400000) (he3 : -400000 ≤ eb) (he4 : eb ≤ 400000) :
    Calls Tryz.prog 58 #[xa, xb] w fun ev w' => ev = .returned (.bool (lessN sa na ea sb nb eb)) ∧ Below w.heap.size w w' := by
  obtain ⟨ao, la, ca, rfl, hl1, hNa⟩ := ha
  obtain ⟨bo, lb, cb, rfl, hl2, hNb⟩ := hb
  have HL1 : Hid (la = (digits na).length) := hl1
  have HL2 : Hid (lb = (digits nb).length) := hl2
  clear hl1 hl2
  go_enter Tryz.func58, Tryz.ntmps58
  go_wp2_with fail
  have hW : Below w.heap.size w ((w.alloc (Obj.cells #[Value.bool sa, Value.slice ao la ca, Value.int IntKind.i64 ea] 92)).alloc (Obj.cells #[Value.bool sb, Value.slice bo lb cb, Value.int IntKind.i64 eb] 92)) :=
    ((Below.refl _ _).alloc (Nat.le_refl _) _).alloc (by simp) _
  refine (negated_any _ sb nb eb _ ⟨_, _, _, rfl, HL2.out, hNb.below hW (Nat.le_refl _)⟩).mono ?_
  rintro e w1 ⟨x1, rfl, ⟨ao1, la1, ca1, rfl, hm1, hM1⟩, hb1⟩
  have B0 := blk_below (blk_old (blk_new w _) _) hb1
  have hNa1 := (hNa.below hW (Nat.le_refl _)).below hb1 (Nat.le_refl _)
  have hbA : Below w.heap.size w w1 := hW.trans (hb1.mono hW.size)
  have HM1 : Hid (la1 = (digits nb).length) := hm1
  clear hNa hNb hW hb1 hm1
  obtain ⟨k00, k01, k02, -, -, -⟩ := blk3 B0
  clear B0
  have hz : w.heap.size < w1.heap.size := ltc k00
  go_wp2_with fail
  have hW2 : Below w1.heap.size w1 (w1.alloc (Obj.cells #[Value.bool (negS sb nb), Value.slice ao1 la1 ca1, Value.int IntKind.i64 eb] 92)) := (Below.refl _ _).alloc (Nat.le_refl _) _
  refine (sum_any _ _ sa (negS sb nb) na nb ea eb _ ⟨_, _, _, rfl, HL1.out, hNa1.below hW2 (Nat.le_refl _)⟩ ⟨_, _, _, rfl, HM1.out, hM1.below hW2 (Nat.le_refl _)⟩ hla hlb he1 he2 he3 he4).mono ?_
  rintro e w2 ⟨x2, rfl, ⟨ao2, la2, ca2, rfl, hm2, hM2⟩, hb2⟩
  have hbB : Below w.heap.size w w2 := (hbA.alloc hbA.size _).trans (hb2.mono (by simp; omega))
  have hlt : Hid (lessN sa na ea sb nb eb = decide (sgnI (sumN sa na ea (negS sb nb) nb eb).1 (sumN sa na ea (negS sb nb) nb eb).2.1 < 0)) := rfl
  have HM2 : Hid (la2 = _) := hm2
  clear hNa1 hM1 hbA hW2 hb2 k00 k01 k02 hz hm2
  generalize sumN sa na ea (negS sb nb) nb eb = r at *
  obtain ⟨rs, rn, re⟩ := r
  simp only at hM2 ⊢
  go_wp2_with fail
  refine (sign_any _ rs rn re _ ⟨_, _, _, rfl, HM2.out, hM2.below ((Below.refl _ _).alloc (Nat.le_refl _) _) (Nat.le_refl _)⟩).mono ?_
  rintro e w3 ⟨rfl, hb3⟩
  have hbC : Below w.heap.size w w3 := (hbB.alloc hbB.size _).trans (hb3.mono (by have := hbB.size; simp; omega))
  clear hM2 hbB hb3
  have hlt2 : Hid (lessN sa na ea sb nb eb = decide (sgnI rs rn < 0)) := hlt.out
  clear hlt
  go_wp2
  go_ret
  rw [hlt2.out]
  exact ⟨rfl, hbC⟩
end Go.Proofs.YtonhpkigoplmaaaGreatDoor
namespace Go.Proofs.YtonhpkigoplmaaaGreatDoor
open Go.RowKit

/-- A float's number by its bits; none: it is not plain. -/
def plainN (b : Nat) : Option (Bool × Nat × Int) :=
  if b / 4503599627370496 % 2048 = 0 ∧ b % 4503599627370496 = 0 then some (false, 0, 0)
  else if b / 4503599627370496 % 2048 < 123 ∨ 1923 < b / 4503599627370496 % 2048 ∨ (b / 4503599627370496 % 2048 = 1923 ∧ 0 < b % 4503599627370496) then none
  else some (decide (b / 9223372036854775808 = 1), b % 4503599627370496 + 4503599627370496, ((b / 4503599627370496 % 2048 : Nat) : Int) - 1075)

theorem bits_expo (b : Nat) (hb : b < 18446744073709551616) : bits .and .u64 ((b : Int) / 4503599627370496) 2047 = ((b / 4503599627370496 % 2048 : Nat) : Int) := by
  have h := u64_and_nat (b / 4503599627370496) 2047 (by omega) (by decide)
  have e1 : ((b / 4503599627370496 : Nat) : Int) = (b : Int) / 4503599627370496 := by omega
  have e2 : ((2047 : Nat) : Int) = 2047 := rfl
  rw [e1, e2] at h
  rw [h]
  have : b / 4503599627370496 &&& 2047 = b / 4503599627370496 % 2048 := Nat.and_two_pow_sub_one_eq_mod _ 11
  rw [this]

theorem bits_frac (b : Nat) (hb : b < 18446744073709551616) : bits .and .u64 (b : Int) 4503599627370495 = ((b % 4503599627370496 : Nat) : Int) := by
  have h := u64_and_nat b 4503599627370495 hb (by decide)
  have e2 : ((4503599627370495 : Nat) : Int) = 4503599627370495 := rfl
  rw [e2] at h
  rw [h]
  have : b &&& 4503599627370495 = b % 4503599627370496 := Nat.and_two_pow_sub_one_eq_mod _ 52
  rw [this]

theorem sgn_bool (b : Nat) : ((b : Int) / 9223372036854775808 == 1) = decide (b / 9223372036854775808 = 1) := by
  rw [Bool.eq_iff_iff]; simp only [beq_iff_eq, decide_eq_true_eq]; omega

/-- What Plain hands back, as values. -/
def PlainR (b : Nat) (w : World) (ev : Ending) (w' : World) : Prop :=
  ∃ x, ev = .returned (.tuple #[x, .bool (plainN b).isSome]) ∧ NumV w' x ((plainN b).getD (false, 0, 0)).1 ((plainN b).getD (false, 0, 0)).2.1 ((plainN b).getD (false, 0, 0)).2.2 ∧ Below w.heap.size w w'

theorem plainR_zero {b : Nat} {w W : World} {ok : Bool} (h : plainN b = some (false, 0, 0) ∧ ok = true ∨ plainN b = none ∧ ok = false) (hW : Below w.heap.size w W) : PlainR b w (.returned (.tuple #[.agg #[.bool false, .slice none 0 0, .int .i64 0], .bool ok])) W := by
  rcases h with ⟨h, rfl⟩ | ⟨h, rfl⟩
  · exact ⟨_, by rw [h]; rfl, by rw [h]; exact ⟨_, _, _, rfl, rfl, NatV.zero W⟩, hW⟩
  · exact ⟨_, by rw [h]; rfl, by rw [h]; exact ⟨_, _, _, rfl, rfl, NatV.zero W⟩, hW⟩

set_option maxHeartbeats 400000 in
set_option maxRecDepth 100000 in
theorem plain_any (b : Nat) (w : World) (hb : b < 18446744073709551616) :
    Calls Tryz.prog 57 #[.int .u64 (b : Int)] w fun ev w' => PlainR b w ev w' := by
  have h1 := bits_expo b hb
  have h2 := bits_frac b hb
  have hn : Hid (plainN b = if b / 4503599627370496 % 2048 = 0 ∧ b % 4503599627370496 = 0 then some (false, 0, 0) else if b / 4503599627370496 % 2048 < 123 ∨ 1923 < b / 4503599627370496 % 2048 ∨ (b / 4503599627370496 % 2048 = 1923 ∧ 0 < b % 4503599627370496) then none else some (decide (b / 9223372036854775808 = 1), b % 4503599627370496 + 4503599627370496, ((b / 4503599627370496 % 2048 : Nat) : Int) - 1075)) := rfl
  have he : b / 4503599627370496 % 2048 < 2048 := by omega
  have hf : b % 4503599627370496 < 4503599627370496 := by omega
  have HB : Hid (b < 18446744073709551616) := hb
  clear hb
  generalize b / 4503599627370496 % 2048 = e at *
  generalize b % 4503599627370496 = f at *
  by_cases he0 : e = 0
  · subst he0
    by_cases hf0 : f = 0
    · subst hf0
      have r : Hid (plainN b = some (false, 0, 0)) := by show _ = _; rw [hn.out]; simp
      clear hn
      go_enter Tryz.func57, Tryz.ntmps57
      go_wp2
      refine bodyPost_ret (v := .tuple #[.agg #[.bool false, .slice none 0 0, .int .i64 0], .bool true]) (by simp [results, Tryz.results57, go_sem]) rfl ?_
      exact plainR_zero (Or.inl ⟨r.out, rfl⟩) ((Below.refl _ _).alloc (Nat.le_refl _) _)
    · have r : Hid (plainN b = none) := by show _ = _; rw [hn.out, if_neg (by omega), if_pos (by omega)]
      have t1 : ((f : Int) == 0) = false := by simp; omega
      clear hn
      go_enter Tryz.func57, Tryz.ntmps57
      go_wp2
      refine bodyPost_ret (v := .tuple #[.agg #[.bool false, .slice none 0 0, .int .i64 0], .bool false]) (by simp [results, Tryz.results57, go_sem]) rfl ?_
      exact plainR_zero (Or.inr ⟨r.out, rfl⟩) ((Below.refl _ _).alloc (Nat.le_refl _) _)
  · have t0 : ((e : Int) == 0) = false := by simp; omega
    rcases (show e < 123 ∨ 1923 < e ∨ (e = 1923 ∧ 0 < f) ∨ (e = 1923 ∧ f = 0) ∨ (123 ≤ e ∧ e < 1923) by omega) with g | g | ⟨g, g'⟩ | ⟨g, g'⟩ | ⟨g, g'⟩
    · have r : Hid (plainN b = none) := by show _ = _; rw [hn.out, if_neg (by omega), if_pos (by omega)]
      clear hn
      go_enter Tryz.func57, Tryz.ntmps57
      go_wp2
      refine bodyPost_ret (v := .tuple #[.agg #[.bool false, .slice none 0 0, .int .i64 0], .bool false]) (by simp [results, Tryz.results57, go_sem]) rfl ?_
      exact plainR_zero (Or.inr ⟨r.out, rfl⟩) ((Below.refl _ _).alloc (Nat.le_refl _) _)
    · have r : Hid (plainN b = none) := by show _ = _; rw [hn.out, if_neg (by omega), if_pos (by omega)]
      clear hn
      go_enter Tryz.func57, Tryz.ntmps57
      go_wp2
      refine bodyPost_ret (v := .tuple #[.agg #[.bool false, .slice none 0 0, .int .i64 0], .bool false]) (by simp [results, Tryz.results57, go_sem]) rfl ?_
      exact plainR_zero (Or.inr ⟨r.out, rfl⟩) ((Below.refl _ _).alloc (Nat.le_refl _) _)
    · have r : Hid (plainN b = none) := by show _ = _; rw [hn.out, if_neg (by omega), if_pos (by omega)]
      subst g
      clear hn
      go_enter Tryz.func57, Tryz.ntmps57
      go_wp2
      refine bodyPost_ret (v := .tuple #[.agg #[.bool false, .slice none 0 0, .int .i64 0], .bool false]) (by simp [results, Tryz.results57, go_sem]) rfl ?_
      exact plainR_zero (Or.inr ⟨r.out, rfl⟩) ((Below.refl _ _).alloc (Nat.le_refl _) _)
    · have r : Hid (plainN b = some (decide (b / 9223372036854775808 = 1), f + 4503599627370496, (e : Int) - 1075)) := by show _ = _; rw [hn.out, if_neg (by omega), if_neg (by omega)]
      subst g
      subst g'
      clear hn
      go_enter Tryz.func57, Tryz.ntmps57
      go_wp2_with fail
      skip
      refine (nat_any (4503599627370496) _ (by omega)).mono ?_
      rintro ev w1 ⟨v1, rfl, hN1, hb1⟩
      obtain ⟨ao1, la1, ca1, rfl, HL1⟩ := hN1.slice2
      have B0 := blk_below (blk_new w _) hb1
      have hbA : Below w.heap.size w w1 := ((Below.refl _ _).alloc (Nat.le_refl _) _).trans (hb1.mono (by simp))
      obtain ⟨k00, k01, k02, k03, k04, k05⟩ := blk3 B0
      have HBX : Hid (BoxT w1 w.heap.size 92) := BoxT.of B0
      have HN1 : Hid (NatV w1 _ _) := hN1
      clear B0 hb1 hN1
      go_wp2
      refine bodyPost_ret (v := .tuple #[.agg #[.bool ((b : Int) / 9223372036854775808 == 1), .slice ao1 la1 ca1, .int .i64 (848)], .bool true]) (by simp [results, Tryz.results57, go_sem, k00, k01, k02]) rfl ?_
      refine ⟨_, by rw [r.out]; rfl, ?_, ?_⟩
      · rw [r.out, sgn_bool]
        refine ⟨_, _, _, rfl, HL1.out, HN1.out.keeps ?_⟩
        repeat refine Keeps.set ?_ (t := 92) (by (repeat refine BoxT.set ?_); exact HBX.out) (by decide)
        exact Keeps.refl _
      · repeat refine Below.setCell ?_ (by simp) _
        exact hbA
    · have r : Hid (plainN b = some (decide (b / 9223372036854775808 = 1), f + 4503599627370496, (e : Int) - 1075)) := by show _ = _; rw [hn.out, if_neg (by omega), if_neg (by omega)]
      have t3 : ((e : Int) == 1923) = false := by simp; omega
      clear hn
      go_enter Tryz.func57, Tryz.ntmps57
      go_wp2_with fail
      rw [show (f : Int) + 4503599627370496 = ((f + 4503599627370496 : Nat) : Int) by omega]
      refine (nat_any (f + 4503599627370496) _ (by omega)).mono ?_
      rintro ev w1 ⟨v1, rfl, hN1, hb1⟩
      obtain ⟨ao1, la1, ca1, rfl, HL1⟩ := hN1.slice2
      have B0 := blk_below (blk_new w _) hb1
      have hbA : Below w.heap.size w w1 := ((Below.refl _ _).alloc (Nat.le_refl _) _).trans (hb1.mono (by simp))
      obtain ⟨k00, k01, k02, k03, k04, k05⟩ := blk3 B0
      have HBX : Hid (BoxT w1 w.heap.size 92) := BoxT.of B0
      have HN1 : Hid (NatV w1 _ _) := hN1
      clear B0 hb1 hN1
      go_wp2
      refine bodyPost_ret (v := .tuple #[.agg #[.bool ((b : Int) / 9223372036854775808 == 1), .slice ao1 la1 ca1, .int .i64 ((e : Int) - 1075)], .bool true]) (by simp [results, Tryz.results57, go_sem, k00, k01, k02]) rfl ?_
      refine ⟨_, by rw [r.out]; rfl, ?_, ?_⟩
      · rw [r.out, sgn_bool]
        refine ⟨_, _, _, rfl, HL1.out, HN1.out.keeps ?_⟩
        repeat refine Keeps.set ?_ (t := 92) (by (repeat refine BoxT.set ?_); exact HBX.out) (by decide)
        exact Keeps.refl _
      · repeat refine Below.setCell ?_ (by simp) _
        exact hbA
end Go.Proofs.YtonhpkigoplmaaaGreatDoor
namespace Go.Proofs.YtonhpkigoplmaaaGreatDoor
open Ieee

/-- A number with its sign. -/
def sg (s : Bool) (n : Nat) : Int := if s then -(n : Int) else (n : Int)

theorem signed_eq (s : Bool) (m k : Nat) : signed s m k = sg s (m * 2 ^ k) := by
  unfold signed sg; rw [Nat.shiftLeft_eq]

theorem sgnI_sumN (sa sb : Bool) (na nb : Nat) (ea eb : Int) :
    sgnI (sumN sa na ea sb nb eb).1 (sumN sa na ea sb nb eb).2.1 < 0 ↔ sg sa (lvA na ea eb) + sg sb (lvB nb ea eb) < 0 := by
  unfold sumN sgnI sg
  generalize lvA na ea eb = A
  generalize lvB nb ea eb = B
  cases sa <;> cases sb <;> simp <;> (repeat' split) <;> simp_all <;> omega

theorem sg_negS (s : Bool) (n k : Nat) : sg (negS s n) (n * k) = - sg s (n * k) := by
  unfold sg negS
  by_cases h : n = 0
  · subst h; simp
  · cases s <;> simp [h]

/-- Is one number below another? Both at one power of two. -/
theorem lessN_eq (sa sb : Bool) (na nb : Nat) (ea eb : Int) :
    lessN sa na ea sb nb eb = decide (sg sa (lvA na ea eb) < sg sb (lvB nb ea eb)) := by
  unfold lessN
  rw [decide_eq_decide, sgnI_sumN]
  have : sg (negS sb nb) (lvB nb ea eb) = - sg sb (lvB nb ea eb) := sg_negS _ _ _
  rw [this]; omega

theorem sg_zero (s : Bool) : sg s 0 = 0 := by cases s <;> rfl
theorem sg_pos_iff (s : Bool) (n k : Nat) (hk : 0 < k) : (0 < sg s (n * k) ↔ 0 < sg s n) ∧ (sg s (n * k) < 0 ↔ sg s n < 0) := by
  unfold sg
  have : n * k = 0 ↔ n = 0 := by
    constructor
    · intro h; rcases Nat.mul_eq_zero.1 h with h | h <;> omega
    · rintro rfl; simp
  cases s <;> constructor <;> constructor <;> intro h <;> simp at * <;> omega

/-- A plain float's word, taken apart. -/
theorem plain_read {b : Nat} {s : Bool} {n : Nat} {e : Int} (hb : b < 18446744073709551616) (h : plainN b = some (s, n, e)) :
    (n = 0 ∧ e = 0 ∧ b % 9223372036854775808 = 0 ∧ ∃ s', double.read b = .number s' 0 (-1074)) ∨ (0 < n ∧ double.read b = .number s n e) := by
  unfold plainN at h
  have hsw : double.signWeight = 9223372036854775808 := rfl
  have hbn : double.binade = 4503599627370496 := rfl
  have hir : double.infRung = 9218868437227405312 := rfl
  have hlp : double.leastPlace = -1074 := rfl
  split at h
  · rename_i h0
    left
    simp only [Option.some.injEq, Prod.mk.injEq] at h
    obtain ⟨-, rfl, rfl⟩ := h
    have hz : b % 9223372036854775808 = 0 := by omega
    refine ⟨rfl, rfl, hz, (b / 9223372036854775808 % 2 == 1), ?_⟩
    unfold Format.read
    simp only [hsw, hbn, hir, hlp, hz]
    rw [if_pos (by omega)]
  · rename_i h0
    split at h
    · cases h
    · rename_i h1
      right
      simp only [Option.some.injEq, Prod.mk.injEq] at h
      obtain ⟨rfl, rfl, rfl⟩ := h
      refine ⟨by omega, ?_⟩
      unfold Format.read
      simp only [hsw, hbn, hir, hlp]
      rw [if_neg (by omega), if_pos (by omega)]
      congr 1
      · rw [Bool.eq_iff_iff]; simp only [beq_iff_eq, decide_eq_true_eq]; omega
      · omega
      · omega

/-- How two plain floats stand. -/
theorem plain_order {a b : Nat} {sa sb : Bool} {na nb : Nat} {ea eb : Int} (ha : a < 18446744073709551616) (hb : b < 18446744073709551616) (pa : plainN a = some (sa, na, ea)) (pb : plainN b = some (sb, nb, eb)) :
    (double.order a b == some Ordering.gt) = lessN sb nb eb sa na ea := by
  rw [lessN_eq]
  have key : ∀ x y : Int, (some (compare x y) == some Ordering.gt) = decide (y < x) := by
    intro x y
    rw [Bool.eq_iff_iff]
    simp [compare, compareOfLessAndEq]
    constructor
    · intro h; split at h <;> (try split at h) <;> simp at h ⊢ <;> omega
    · intro h; rw [if_neg (by omega), if_neg (by omega)]
  unfold Format.order
  rcases plain_read ha pa with ⟨rfl, rfl, -, s1, r1⟩ | ⟨hna, r1⟩ <;> rcases plain_read hb pb with ⟨rfl, rfl, -, s2, r2⟩ | ⟨hnb, r2⟩
  · rw [r1, r2]
    simp only [Datum.order, key, signed_eq, Nat.zero_mul, sg_zero, lvA, lvB]
  · rw [r1, r2]
    simp only [Datum.order, key, signed_eq, Nat.zero_mul, sg_zero, lvA, lvB]
    rw [decide_eq_decide, (sg_pos_iff sb nb _ (Nat.two_pow_pos _)).2, (sg_pos_iff sb nb _ (Nat.two_pow_pos _)).2]
  · rw [r1, r2]
    simp only [Datum.order, key, signed_eq, Nat.zero_mul, sg_zero, lvA, lvB]
    rw [decide_eq_decide, (sg_pos_iff sa na _ (Nat.two_pow_pos _)).1, (sg_pos_iff sa na _ (Nat.two_pow_pos _)).1]
  · rw [r1, r2]
    simp only [Datum.order, key, signed_eq]
    have e1 : lvA nb eb ea = nb * 2 ^ (eb - min ea eb).toNat := by unfold lvA; rw [Int.min_comm]
    have e2 : lvB na eb ea = na * 2 ^ (ea - min ea eb).toNat := by unfold lvB; rw [Int.min_comm]
    rw [e1, e2]

/-! which floats are plain, by comparisons -/
theorem read_sub {r : Nat} (h : r < 4503599627370496) : double.read r = .number false r (-1074) := by
  have hsw : double.signWeight = 9223372036854775808 := rfl
  have hbn : double.binade = 4503599627370496 := rfl
  have hlp : double.leastPlace = -1074 := rfl
  unfold Format.read
  simp only [hsw, hbn, hlp]
  rw [Nat.mod_eq_of_lt (by omega), if_pos h, show r / 9223372036854775808 = 0 by omega]
  rfl

theorem read_norm {r : Nat} (h : 4503599627370496 ≤ r) (h2 : r < 9218868437227405312) : double.read r = .number false (4503599627370496 + r % 4503599627370496) (((r / 4503599627370496 : Nat) : Int) - 1075) := by
  have hsw : double.signWeight = 9223372036854775808 := rfl
  have hbn : double.binade = 4503599627370496 := rfl
  have hir : double.infRung = 9218868437227405312 := rfl
  have hlp : double.leastPlace = -1074 := rfl
  unfold Format.read
  simp only [hsw, hbn, hir, hlp]
  rw [Nat.mod_eq_of_lt (show r < 9223372036854775808 by omega), if_neg (by omega), if_pos h2, show r / 9223372036854775808 = 0 by omega]
  congr 1
  omega

theorem read_inf : double.read 9218868437227405312 = .infinity false := rfl

theorem read_nan {r : Nat} (h : 9218868437227405312 < r) (h2 : r < 9223372036854775808) : ∃ t, double.read r = .nan false t := by
  have hsw : double.signWeight = 9223372036854775808 := rfl
  have hbn : double.binade = 4503599627370496 := rfl
  have hir : double.infRung = 9218868437227405312 := rfl
  unfold Format.read
  simp only [hsw, hbn, hir]
  rw [Nat.mod_eq_of_lt h2, if_neg (by omega), if_neg (by omega), if_neg (by omega), show r / 9223372036854775808 = 0 by omega]
  exact ⟨_, rfl⟩

theorem signed_false (m k : Nat) : signed false m k = ((m * 2 ^ k : Nat) : Int) := by rw [signed_eq]; rfl

theorem cmp_lt' {x y : Int} (h : x < y) : compare x y = .lt := by simp [compare, compareOfLessAndEq, h]
theorem cmp_eq' {x y : Int} (h : x = y) : compare x y = .eq := by subst h; simp [compare, compareOfLessAndEq]
theorem cmp_gt' {x y : Int} (h : y < x) : compare x y = .gt := by
  simp only [compare, compareOfLessAndEq]; rw [if_neg (by omega), if_neg (by omega)]

/-- A float that is not below 0 against a power of two. -/
theorem order_pow {r K : Nat} (hr : r < 9218868437227405312) (hK1 : 1 ≤ K) (hK2 : K ≤ 2046) :
    double.order r (K * 4503599627370496) = some (if r < K * 4503599627370496 then .lt else if r = K * 4503599627370496 then .eq else .gt) := by
  have hk : double.read (K * 4503599627370496) = .number false 4503599627370496 ((K : Int) - 1075) := by
    rw [read_norm (by omega) (by omega)]
    have e1 : K * 4503599627370496 % 4503599627370496 = 0 := by omega
    have e2 : K * 4503599627370496 / 4503599627370496 = K := by omega
    rw [e1, e2]
  unfold Format.order
  rw [hk]
  by_cases hs : r < 4503599627370496
  · rw [read_sub hs, if_pos (by omega)]
    simp only [Datum.order, signed_false, Option.some.injEq]
    apply cmp_lt'
    have hb : min (-1074 : Int) ((K : Int) - 1075) = -1074 := by omega
    rw [hb]
    have h1 : 1 ≤ 2 ^ ((K : Int) - 1075 - -1074).toNat := Nat.one_le_two_pow
    have h2 : 4503599627370496 * 1 ≤ 4503599627370496 * 2 ^ ((K : Int) - 1075 - -1074).toNat := Nat.mul_le_mul_left _ h1
    have h0 : ((-1074 : Int) - -1074).toNat = 0 := rfl
    rw [h0, Nat.pow_zero, Nat.mul_one]
    generalize 4503599627370496 * 2 ^ ((K : Int) - 1075 - -1074).toNat = Y at *
    omega
  · rw [read_norm (by omega) hr]
    simp only [Datum.order, signed_false, Option.some.injEq]
    have hf : r % 4503599627370496 < 4503599627370496 := by omega
    have hre : r = r / 4503599627370496 * 4503599627370496 + r % 4503599627370496 := by omega
    generalize r / 4503599627370496 = e at *
    generalize r % 4503599627370496 = f at *
    rcases Nat.lt_trichotomy e K with h | h | h
    · rw [if_pos (by omega)]
      apply cmp_lt'
      have hb : min ((e : Int) - 1075) ((K : Int) - 1075) = (e : Int) - 1075 := by omega
      rw [hb]
      have h0 : ((e : Int) - 1075 - ((e : Int) - 1075)).toNat = 0 := by omega
      have h3 : ((K : Int) - 1075 - ((e : Int) - 1075)).toNat = (K - e - 1) + 1 := by omega
      rw [h0, h3, Nat.pow_zero, Nat.mul_one, Nat.pow_succ]
      have h1 : 1 ≤ 2 ^ (K - e - 1) := Nat.one_le_two_pow
      generalize 2 ^ (K - e - 1) = Y at *
      omega
    · subst h
      have h0 : ∀ x : Int, (x - min x x).toNat = 0 := fun x => by omega
      rw [h0, Nat.pow_zero, Nat.mul_one, Nat.mul_one, if_neg (by omega)]
      split
      · exact cmp_eq' (by omega)
      · exact cmp_gt' (by omega)
    · rw [if_neg (by omega), if_neg (by omega)]
      apply cmp_gt'
      have hb : min ((e : Int) - 1075) ((K : Int) - 1075) = (K : Int) - 1075 := by omega
      rw [hb]
      have h0 : ((K : Int) - 1075 - ((K : Int) - 1075)).toNat = 0 := by omega
      have h3 : ((e : Int) - 1075 - ((K : Int) - 1075)).toNat = (e - K - 1) + 1 := by omega
      rw [h0, h3, Nat.pow_zero, Nat.mul_one, Nat.pow_succ]
      have h1 : 1 ≤ 2 ^ (e - K - 1) := Nat.one_le_two_pow
      have h2 : (4503599627370496 + f) * 2 ≤ (4503599627370496 + f) * (2 ^ (e - K - 1) * 2) := Nat.mul_le_mul_left _ (by omega)
      generalize (4503599627370496 + f) * (2 ^ (e - K - 1) * 2) = Y at *
      omega

theorem order_zero {r : Nat} (hr : r < 9223372036854775808) : (double.order r 0 == some Ordering.eq) = decide (r = 0) := by
  have h0 : double.read 0 = .number false 0 (-1074) := rfl
  unfold Format.order
  rw [h0]
  rcases (show r < 4503599627370496 ∨ (4503599627370496 ≤ r ∧ r < 9218868437227405312) ∨ r = 9218868437227405312 ∨ 9218868437227405312 < r by omega) with h | ⟨h, h2⟩ | h | h
  · rw [read_sub h]
    simp only [Datum.order, signed_false, Nat.zero_mul]
    have : ((-1074 : Int) - min (-1074) (-1074)).toNat = 0 := rfl
    rw [this, Nat.pow_zero, Nat.mul_one]
    by_cases hz : r = 0
    · subst hz; rfl
    · rw [cmp_gt' (by omega)]; simp [hz]
  · rw [read_norm h h2]
    simp only [Datum.order, signed_false, Nat.zero_mul]
    have h1 : 0 < (4503599627370496 + r % 4503599627370496) * 2 ^ (((r / 4503599627370496 : Nat) : Int) - 1075 - min (((r / 4503599627370496 : Nat) : Int) - 1075) (-1074)).toNat := Nat.mul_pos (by omega) (Nat.two_pow_pos _)
    rw [cmp_gt' (Int.ofNat_lt.2 h1)]
    have : r ≠ 0 := by omega
    simp [this]
  · subst h; rw [read_inf]; rfl
  · obtain ⟨t, ht⟩ := read_nan h hr
    rw [ht]
    have : r ≠ 0 := by omega
    simp [Datum.order, this]

/-- What isPlain asks, of a float without its sign. -/
def isPlainB (r : Nat) : Bool :=
  (double.order r 0 == some Ordering.eq) || ((double.order r 553942754166571008 == some Ordering.gt || double.order r 553942754166571008 == some Ordering.eq) && (double.order r 8660422083433463808 == some Ordering.lt || double.order r 8660422083433463808 == some Ordering.eq))

theorem isPlainB_eq {b : Nat} (_hb : b < 18446744073709551616) : isPlainB (b % 9223372036854775808) = (plainN b).isSome := by
  have hr : b % 9223372036854775808 < 9223372036854775808 := by omega
  have e1 : b / 4503599627370496 % 2048 = b % 9223372036854775808 / 4503599627370496 := by omega
  have e2 : b % 4503599627370496 = b % 9223372036854775808 % 4503599627370496 := by omega
  unfold isPlainB plainN
  rw [order_zero hr, e1, e2]
  generalize b % 9223372036854775808 = r at *
  rcases (show r < 9218868437227405312 ∨ r = 9218868437227405312 ∨ 9218868437227405312 < r by omega) with h | h | h
  · have o1 := order_pow (K := 123) h (by omega) (by omega)
    have o2 := order_pow (K := 1923) h (by omega) (by omega)
    have c1 : 123 * 4503599627370496 = 553942754166571008 := by decide
    have c2 : 1923 * 4503599627370496 = 8660422083433463808 := by decide
    rw [c1] at o1
    rw [c2] at o2
    rw [o1, o2]
    by_cases hz : r = 0
    · subst hz; rfl
    · rw [if_neg (show ¬(r / 4503599627370496 = 0 ∧ r % 4503599627370496 = 0) by omega)]
      by_cases hp : 553942754166571008 ≤ r ∧ r ≤ 8660422083433463808
      · rw [if_neg (show ¬(r / 4503599627370496 < 123 ∨ 1923 < r / 4503599627370496 ∨ (r / 4503599627370496 = 1923 ∧ 0 < r % 4503599627370496)) by omega)]
        rw [if_neg (by omega)]
        have h1 : r < 8660422083433463808 ∨ r = 8660422083433463808 := by omega
        rcases h1 with h1 | h1
        · rw [if_pos h1]
          by_cases h2 : r = 553942754166571008
          · rw [if_pos h2]; simp
          · rw [if_neg h2]; simp
        · rw [if_neg (by omega), if_pos h1, if_neg (by omega)]; simp
      · rw [if_pos (show (r / 4503599627370496 < 123 ∨ 1923 < r / 4503599627370496 ∨ (r / 4503599627370496 = 1923 ∧ 0 < r % 4503599627370496)) by omega)]
        by_cases h1 : r < 553942754166571008
        · rw [if_pos h1]; simp [hz]
        · rw [if_neg (show ¬ r < 8660422083433463808 by omega), if_neg (show ¬ r = 8660422083433463808 by omega)]; simp [hz]
  · subst h; rfl
  · obtain ⟨t, ht⟩ := read_nan h hr
    rw [if_neg (by omega), if_pos (by omega)]
    have hz : r ≠ 0 := by omega
    unfold Format.order
    rw [ht]
    simp [Datum.order, hz]
end Go.Proofs.YtonhpkigoplmaaaGreatDoor
namespace Go.Proofs.YtonhpkigoplmaaaGreatDoor
open Go.RowKit Go.Extern.Stop Go.Stop Go.Extern

theorem rlm (z : Sem Value) (f : TypeId → Addr → Nat → Nat → Sem Value) (v : Value) :
    ReflectliteValue.method z f #[v] = (do match ← ReflectliteValue.parts v with | none => z | some (t, a, fl) => f t a fl (fl % 32)) := rfl

/-! closed facts -/
def cmpEntry : TypeId → Sem Value := fun t => do Rtype.noPackHeld "Comparable" t; pure (.bool (← typeInfo t).comparable)
theorem c_valueOfPP (t : Addr) (w : World) : (ReflectliteValue.unpack (.iface 141 (.pointer (some t)))).run Tryz.prog w
    = .ok (.agg #[.pointer (some ⟨11, 141, none⟩), .pointer (some ⟨w.heap.size, 0, none⟩), .int .u64 150]) (w.alloc (.cells #[.pointer (some t)] 141)) := by kernel_rfl
theorem c_typePP (a : Addr) (w : World) : (ReflectliteValue.methodAny (ReflectliteValue.valueError "reflectlite.Value.Type" 0) (fun t _ _ _ => ReflectliteType.toType t) #[.agg #[.pointer (some ⟨11, 141, none⟩), .pointer (some a), .int .u64 150]]).run Tryz.prog w
    = .ok (.iface 216 (.agg #[.pointer (some ⟨11, 141, none⟩)])) w := by kernel_rfl
theorem c_methodKind (h : Value) (w : World) : (Go.method 363 216 (.agg #[h]) "Kind").run Tryz.prog w = .ok (197, h) w := by kernel_rfl
theorem c_kindPP (w : World) : ((ReflectliteType.abiMethod fun t => Functor.map (fun a : Nat => Value.int IntKind.u8 (a : Int)) (Rtype.kind t)) #[.pointer (some ⟨11, 141, none⟩)]).run Tryz.prog w = .ok (.int .u8 22) w := by kernel_rfl
theorem c_kindPE (w : World) : ((ReflectliteType.abiMethod fun t => Functor.map (fun a : Nat => Value.int IntKind.u8 (a : Int)) (Rtype.kind t)) #[.pointer (some ⟨11, 136, none⟩)]).run Tryz.prog w = .ok (.int .u8 22) w := by kernel_rfl
theorem c_partsPP (a : Addr) (w : World) : (ReflectliteValue.parts (.agg #[.pointer (some ⟨11, 141, none⟩), .pointer (some a), .int .u64 150])).run Tryz.prog w = .ok (some (141, a, 150)) w := by kernel_rfl
theorem c_isNilPP (a p : Addr) (W : World) (ha : W.cell? a = some (.pointer (some p))) :
    (ReflectliteValue.method (ReflectliteValue.valueError "reflectlite.Value.IsNil" 0) ReflectliteValue.isNil #[.agg #[.pointer (some ⟨11, 141, none⟩), .pointer (some a), .int .u64 150]]).run Tryz.prog W = .ok (.bool false) W := by
  rw [rlm]
  simp only [Sem.run_bind, c_partsPP, Result.andThen]
  simp [ReflectliteValue.isNil, loadVar, isAgg, underlying, Tryz.underlying141, ha, Result.andThen]
theorem c_methodElem (h : Value) (w : World) : (Go.method 363 216 (.agg #[h]) "Elem").run Tryz.prog w = .ok (207, .agg #[h]) w := by kernel_rfl
theorem c_methodImplements (h : Value) (w : World) : (Go.method 363 216 (.agg #[h]) "Implements").run Tryz.prog w = .ok (208, .agg #[h]) w := by kernel_rfl
theorem c_methodAssignableTo (h : Value) (w : World) : (Go.method 363 216 (.agg #[h]) "AssignableTo").run Tryz.prog w = .ok (205, .agg #[h]) w := by kernel_rfl
theorem c_elemPP (w : World) : (ReflectliteType.method ReflectliteType.elem #[.agg #[.pointer (some ⟨11, 141, none⟩)]]).run Tryz.prog w = .ok (.iface 216 (.agg #[.pointer (some ⟨11, 136, none⟩)])) w := by kernel_rfl
theorem c_implementsPE (w : World) : (ReflectliteType.relation "Implements" ReflectliteType.implements_ #[.agg #[.pointer (some ⟨11, 136, none⟩)], .iface 216 (.agg #[.pointer (some ⟨11, 70, none⟩)])]).run Tryz.prog w = .ok (.bool true) w := by kernel_rfl
theorem c_typeOfES (v : Value) (w : World) : (ReflectliteType.typeOf #[.iface 229 v]).run Tryz.prog w = .ok (.iface 216 (.agg #[.pointer (some ⟨11, 229, none⟩)])) w := by kernel_rfl
theorem c_assignableES (w : World) : (ReflectliteType.relation "AssignableTo" ReflectliteType.assignableTo #[.agg #[.pointer (some ⟨11, 229, none⟩)], .iface 216 (.agg #[.pointer (some ⟨11, 136, none⟩)])]).run Tryz.prog w = .ok (.bool false) w := by kernel_rfl
theorem c_comparable (w : World) : (Extern.ReflectliteType.method cmpEntry #[.agg #[.pointer (some ⟨11, 229, none⟩)]]).run Tryz.prog w = .ok (.bool true) w := by kernel_rfl
theorem c_methodComparable (v : Value) (w : World) : (Go.method 363 216 v "Comparable").run Tryz.prog w = .ok (206, v) w := by kernel_rfl
theorem c_compES : (Tryz.prog.info? 229).map (·.comparable) = some true := by kernel_rfl
theorem c_sizeES : (Tryz.prog.info? 251).map (·.size) = some 1 := by kernel_rfl
theorem c_noAsES (v : Value) (xT : TypeId) (w : World) : (Instr.typeAssert (.iface 229 v) xT 220 true).run Tryz.prog w = .ok (.tuple #[.nilIface, .bool false]) w := run_typeAssert_lacksB Tryz.underlying220 (by kernel_rfl) (by kernel_rfl) v xT w
theorem c_noIsES (v : Value) (xT : TypeId) (w : World) : (Instr.typeAssert (.iface 229 v) xT 226 true).run Tryz.prog w = .ok (.tuple #[.nilIface, .bool false]) w := run_typeAssert_lacksB Tryz.underlying226 (by kernel_rfl) (by kernel_rfl) v xT w
theorem c_noUnwrapES (v : Value) (xT : TypeId) (w : World) : (Instr.typeAssert (.iface 229 v) xT 223 true).run Tryz.prog w = .ok (.tuple #[.nilIface, .bool false]) w := run_typeAssert_lacksB Tryz.underlying223 (by kernel_rfl) (by kernel_rfl) v xT w
theorem c_noUnwrapsES (v : Value) (xT : TypeId) (w : World) : (Instr.typeAssert (.iface 229 v) xT 224 true).run Tryz.prog w = .ok (.tuple #[.nilIface, .bool false]) w := run_typeAssert_lacksB Tryz.underlying224 (by kernel_rfl) (by kernel_rfl) v xT w

/-- errors.Is(x, x), x a pointer to an errors.errorString. -/
theorem is_same (a : Addr) (w : World) :
    Calls Tryz.prog 98 #[.iface 229 (.pointer (some a)), .iface 229 (.pointer (some a))] w fun e w' => e = .returned (.bool true) ∧ w' = w := by
  obtain ⟨i, hi, hcmp⟩ := Option.map_eq_some_iff.1 c_compES
  obtain ⟨j, hj, hjs⟩ := Option.map_eq_some_iff.1 c_sizeES
  have h8 := @run_callFunc_extern Tryz.prog 150 _ Extern.ReflectliteType.typeOf Tryz.func150 (by kernel_rfl) (by kernel_rfl) (by kernel_rfl) (by kernel_rfl)
  have h32 := @run_callFunc_extern Tryz.prog 206 _ (Extern.ReflectliteType.method cmpEntry) Tryz.func206 (by kernel_rfl) (by kernel_rfl) (by kernel_rfl) (by kernel_rfl)
  have tT := c_typeOfES
  have cT := c_comparable
  have mR := c_methodComparable
  have heq := run_eql_iface_ptr_same (P := Tryz.prog) w a Tryz.underlying70 Tryz.underlying229 hi hcmp hj
  go_enter Tryz.func98, Tryz.ntmps98
  go_wp2
  refine wp_loop_rounds 1 ?_
  rw [rounds_succ]
  go_wp2
  go_ret
  exact ⟨rfl, rfl⟩

/-- errors.Is(x, y), two different pointers to errors.errorString. -/
theorem is_other (a b : Addr) (ca cb : Array Value) (ta tb : TypeId) (w : World) (hne : a ≠ b) (ha : w.heap[a.block]? = some (.cells ca ta (0, 0))) (hb : w.heap[b.block]? = some (.cells cb tb (0, 0))) :
    Calls Tryz.prog 98 #[.iface 229 (.pointer (some a)), .iface 229 (.pointer (some b))] w fun e w' => e = .returned (.bool false) ∧ w' = w := by
  obtain ⟨i, hi, hcmp⟩ := Option.map_eq_some_iff.1 c_compES
  obtain ⟨j, hj, hjs⟩ := Option.map_eq_some_iff.1 c_sizeES
  have h8 := @run_callFunc_extern Tryz.prog 150 _ Extern.ReflectliteType.typeOf Tryz.func150 (by kernel_rfl) (by kernel_rfl) (by kernel_rfl) (by kernel_rfl)
  have h32 := @run_callFunc_extern Tryz.prog 206 _ (Extern.ReflectliteType.method cmpEntry) Tryz.func206 (by kernel_rfl) (by kernel_rfl) (by kernel_rfl) (by kernel_rfl)
  have tT := c_typeOfES
  have cT := c_comparable
  have mR := c_methodComparable
  have nE := c_noIsES
  have uE := c_noUnwrapES
  have vE := c_noUnwrapsES
  have heq := run_eql_iface_ptr_other (P := Tryz.prog) w Tryz.underlying70 Tryz.underlying229 hi hcmp hj (by rw [hjs]; decide) hne ha hb
  go_enter Tryz.func98, Tryz.ntmps98
  go_wp2
  refine wp_loop_rounds 1 ?_
  rw [rounds_succ]
  go_wp2
  go_ret
  exact ⟨rfl, rfl⟩

set_option maxHeartbeats 4000000 in
/-- errors.As(x, &o), x a pointer to an errors.errorString, o an *OpError: false; nothing that was there turns. -/
theorem as_miss (e t : Addr) (w : World) (hg : w.cell? ⟨9, 0, none⟩ = some (.iface 216 (.agg #[.pointer (some ⟨11, 70, none⟩)]))) :
    Calls Tryz.prog 96 #[.iface 229 (.pointer (some e)), .iface 141 (.pointer (some t))] w fun ev w' => ev = .returned (.bool false) ∧ Below w.heap.size w w' := by
  have h6 := @run_callFunc_extern Tryz.prog 146 _ (fun args => ReflectliteValue.unpack (args.getD 0 (.tuple #[]))) Tryz.func146 (by kernel_rfl) (by kernel_rfl) (by kernel_rfl) (by kernel_rfl)
  have h7 := @run_callFunc_extern Tryz.prog 147 _ (ReflectliteValue.methodAny (ReflectliteValue.valueError "reflectlite.Value.Type" 0) (fun t _ _ _ => ReflectliteType.toType t)) Tryz.func147 (by kernel_rfl) (by kernel_rfl) (by kernel_rfl) (by kernel_rfl)
  have h8 := @run_callFunc_extern Tryz.prog 148 _ (ReflectliteValue.method (ReflectliteValue.valueError "reflectlite.Value.IsNil" 0) ReflectliteValue.isNil) Tryz.func148 (by kernel_rfl) (by kernel_rfl) (by kernel_rfl) (by kernel_rfl)
  have h27 := @run_callFunc_extern Tryz.prog 197 _ (ReflectliteType.abiMethod fun t => do pure (.int .u8 (← Rtype.kind t))) Tryz.func197 (by kernel_rfl) (by kernel_rfl) (by kernel_rfl) (by kernel_rfl)
  have h37 := @run_callFunc_extern Tryz.prog 207 _ (ReflectliteType.method ReflectliteType.elem) Tryz.func207 (by kernel_rfl) (by kernel_rfl) (by kernel_rfl) (by kernel_rfl)
  have h38 := @run_callFunc_extern Tryz.prog 208 _ (ReflectliteType.relation "Implements" ReflectliteType.implements_) Tryz.func208 (by kernel_rfl) (by kernel_rfl) (by kernel_rfl) (by kernel_rfl)
  have h10 := @run_callFunc_extern Tryz.prog 150 _ ReflectliteType.typeOf Tryz.func150 (by kernel_rfl) (by kernel_rfl) (by kernel_rfl) (by kernel_rfl)
  have h35 := @run_callFunc_extern Tryz.prog 205 _ (ReflectliteType.relation "AssignableTo" ReflectliteType.assignableTo) Tryz.func205 (by kernel_rfl) (by kernel_rfl) (by kernel_rfl) (by kernel_rfl)
  have tO := c_typeOfES
  have mA := c_methodAssignableTo
  have a25 := c_assignableES
  have f6 := c_valueOfPP
  have f7 := c_typePP
  have mK := c_methodKind
  have mE := c_methodElem
  have mI := c_methodImplements
  have k27 := c_kindPP
  have k25 := c_kindPE
  have e27 := c_elemPP
  have i25 := c_implementsPE
  have nA := c_noAsES
  have uE := c_noUnwrapES
  have vE := c_noUnwrapsES
  have n8 := c_isNilPP ⟨w.heap.size, 0, none⟩ t ((w.alloc (.cells #[.pointer (some t)] 141)).alloc (.cells #[.pointer (some ⟨11, 141, none⟩), .pointer (some ⟨w.heap.size, 0, none⟩), .int .u64 150] 186)) (by simp)
  have hlt : 9 < w.heap.size := by
    rcases Nat.lt_or_ge 9 w.heap.size with h | h
    · exact h
    · simp [World.cell?, Array.getElem?_eq_none h] at hg
  have hg2 : ((w.alloc (.cells #[.pointer (some t)] 141)).alloc (.cells #[.pointer (some ⟨11, 141, none⟩), .pointer (some ⟨w.heap.size, 0, none⟩), .int .u64 150] 186)).cell? ⟨9, 0, none⟩ = some (.iface 216 (.agg #[.pointer (some ⟨11, 70, none⟩)])) := by
    rw [World.cell?_alloc_lt _ _ ⟨9, 0, none⟩ (by simp; omega), World.cell?_alloc_lt _ _ ⟨9, 0, none⟩ hlt]; exact hg
  go_enter Tryz.func96, Tryz.ntmps96
  go_wp2
  refine wp_loop_rounds 1 ?_
  rw [rounds_succ]
  go_wp2
  go_ret
  exact ⟨rfl, (((Below.refl _ _).alloc (Nat.le_refl _) _).alloc (by simp) _).alloc (by simp; omega) _⟩
end Go.Proofs.YtonhpkigoplmaaaGreatDoor
namespace Go.Proofs.YtonhpkigoplmaaaGreatDoor
open Go.RowKit Go.Extern.Stop Go.Stop Go.Extern

/-- Which variable the k-th error is. -/
def gix : Nat → Nat
  | 0 => 3
  | 1 => 4
  | 2 => 5
  | 3 => 1
  | 4 => 2
  | 5 => 0
  | 6 => 6
  | 7 => 7
  | _ => 8

/-- The nine errors and errors.errorType lie as the program lays them: A k is where the k-th error lies. -/
structure Sents (A : Nat → Addr) (w : World) : Prop where
  ty : w.cell? ⟨9, 0, none⟩ = some (.iface 216 (.agg #[.pointer (some ⟨11, 70, none⟩)]))
  cell : ∀ k, k < 9 → w.cell? ⟨gix k, 0, none⟩ = some (.iface 229 (.pointer (some (A k))))
  row : ∀ k, k < 9 → ∃ c t, w.heap[(A k).block]? = some (.cells c t (0, 0))
  other : ∀ j k, j < k → k < 9 → A j ≠ A k

theorem lt_of_cell {w : World} {p : Addr} {v : Value} (h : w.cell? p = some v) : p.block < w.heap.size := by
  rcases Nat.lt_or_ge p.block w.heap.size with h' | h'
  · exact h'
  · simp [World.cell?, Array.getElem?_eq_none h'] at h

theorem lt_of_row {w : World} {b : Nat} {o : Obj} (h : w.heap[b]? = some o) : b < w.heap.size := by
  rcases Nat.lt_or_ge b w.heap.size with h' | h'
  · exact h'
  · simp [Array.getElem?_eq_none h'] at h

theorem Sents.below {A : Nat → Addr} {w w' : World} {B : Nat} (h : Sents A w) (hb : Below B w w') (hB : w.heap.size ≤ B) : Sents A w' := by
  refine ⟨?_, fun k hk => ?_, fun k hk => ?_, h.other⟩
  · have := lt_of_cell h.ty
    rw [hb.cell (by simp at this ⊢; omega)]; exact h.ty
  · have := lt_of_cell (h.cell k hk)
    rw [hb.cell (by simp at this ⊢; omega)]; exact h.cell k hk
  · obtain ⟨c, t, hr⟩ := h.row k hk
    have := lt_of_row hr
    exact ⟨c, t, by rw [hb.block _ (by omega)]; exact hr⟩

theorem Sents.alloc {A : Nat → Addr} {w : World} (h : Sents A w) (o : Obj) : Sents A (w.alloc o) :=
  h.below ((Below.refl _ _).alloc (Nat.le_refl _) o) (Nat.le_refl _)

theorem code_nil (w : World) : Calls Tryz.prog 49 #[.nilIface] w fun e w' => e = .returned (.tuple #[.int .i64 0, .string ⟨#[]⟩]) ∧ w' = w := by
  go_enter Tryz.func49, Tryz.ntmps49
  go_wp2
  go_ret2
  exact ⟨rfl, rfl⟩

set_option maxHeartbeats 4000000 in
theorem code_sent (A : Nat → Addr) (w : World) (i : Nat) (hi : i < 9) (hS : Sents A w) :
    Calls Tryz.prog 49 #[.iface 229 (.pointer (some (A i)))] w fun e w' => e = .returned (.tuple #[.int .i64 (i + 1 : Nat), .string ⟨#[]⟩]) ∧ Below w.heap.size w w' := by
  go_enter Tryz.func49, Tryz.ntmps49
  go_wp2_with fail
  refine (as_miss _ _ _ (hS.alloc _).ty).mono ?_
  rintro e w1 ⟨rfl, hb1⟩
  have hS1 := (hS.alloc _).below hb1 (Nat.le_refl _)
  have hb : Below w.heap.size w w1 := ((Below.refl _ _).alloc (Nat.le_refl _) _).trans (hb1.mono (by simp))
  have c0 : w1.cell? ⟨3, 0, none⟩ = some (.iface 229 (.pointer (some (A 0)))) := hS1.cell 0 (by omega)
  have c1 : w1.cell? ⟨4, 0, none⟩ = some (.iface 229 (.pointer (some (A 1)))) := hS1.cell 1 (by omega)
  have c2 : w1.cell? ⟨5, 0, none⟩ = some (.iface 229 (.pointer (some (A 2)))) := hS1.cell 2 (by omega)
  have c3 : w1.cell? ⟨1, 0, none⟩ = some (.iface 229 (.pointer (some (A 3)))) := hS1.cell 3 (by omega)
  have c4 : w1.cell? ⟨2, 0, none⟩ = some (.iface 229 (.pointer (some (A 4)))) := hS1.cell 4 (by omega)
  have c5 : w1.cell? ⟨0, 0, none⟩ = some (.iface 229 (.pointer (some (A 5)))) := hS1.cell 5 (by omega)
  have c6 : w1.cell? ⟨6, 0, none⟩ = some (.iface 229 (.pointer (some (A 6)))) := hS1.cell 6 (by omega)
  have c7 : w1.cell? ⟨7, 0, none⟩ = some (.iface 229 (.pointer (some (A 7)))) := hS1.cell 7 (by omega)
  have c8 : w1.cell? ⟨8, 0, none⟩ = some (.iface 229 (.pointer (some (A 8)))) := hS1.cell 8 (by omega)
  clear hb1
  go_wp2_with fail
  have hS2 := hS1.alloc (Obj.cells #[Value.iface 229 (Value.pointer (some (A 0))), Value.iface 229 (Value.pointer (some (A 1))), Value.iface 229 (Value.pointer (some (A 2))), Value.iface 229 (Value.pointer (some (A 3))), Value.iface 229 (Value.pointer (some (A 4))), Value.iface 229 (Value.pointer (some (A 5))), Value.iface 229 (Value.pointer (some (A 6))), Value.iface 229 (Value.pointer (some (A 7))), Value.iface 229 (Value.pointer (some (A 8)))] 70)
  have hb2 := hb.alloc hb.size (Obj.cells #[Value.iface 229 (Value.pointer (some (A 0))), Value.iface 229 (Value.pointer (some (A 1))), Value.iface 229 (Value.pointer (some (A 2))), Value.iface 229 (Value.pointer (some (A 3))), Value.iface 229 (Value.pointer (some (A 4))), Value.iface 229 (Value.pointer (some (A 5))), Value.iface 229 (Value.pointer (some (A 6))), Value.iface 229 (Value.pointer (some (A 7))), Value.iface 229 (Value.pointer (some (A 8)))] 70)
  have hl : ∀ k, k < 9 → (w1.alloc (Obj.cells #[Value.iface 229 (Value.pointer (some (A 0))), Value.iface 229 (Value.pointer (some (A 1))), Value.iface 229 (Value.pointer (some (A 2))), Value.iface 229 (Value.pointer (some (A 3))), Value.iface 229 (Value.pointer (some (A 4))), Value.iface 229 (Value.pointer (some (A 5))), Value.iface 229 (Value.pointer (some (A 6))), Value.iface 229 (Value.pointer (some (A 7))), Value.iface 229 (Value.pointer (some (A 8)))] 70)).cell? ⟨w1.heap.size, k, none⟩ = some (.iface 229 (.pointer (some (A k)))) := by
    intro k hk
    rcases (show k = 0 ∨ k = 1 ∨ k = 2 ∨ k = 3 ∨ k = 4 ∨ k = 5 ∨ k = 6 ∨ k = 7 ∨ k = 8 by omega) with rfl | rfl | rfl | rfl | rfl | rfl | rfl | rfl | rfl <;> simp
  clear c0 c1 c2 c3 c4 c5 c6 c7 c8 hb hS1 hS
  generalize (w1.alloc (Obj.cells #[Value.iface 229 (Value.pointer (some (A 0))), Value.iface 229 (Value.pointer (some (A 1))), Value.iface 229 (Value.pointer (some (A 2))), Value.iface 229 (Value.pointer (some (A 3))), Value.iface 229 (Value.pointer (some (A 4))), Value.iface 229 (Value.pointer (some (A 5))), Value.iface 229 (Value.pointer (some (A 6))), Value.iface 229 (Value.pointer (some (A 7))), Value.iface 229 (Value.pointer (some (A 8)))] 70)) = W2 at *
  go_loop [38] (fun v => ∃ k : Nat, k ≤ i ∧ v = .int .i64 k) (fun v => 9 - (intOf v).toNat)
  case atStart => exact ⟨0, Nat.zero_le _, rfl⟩
  case round =>
    obtain ⟨k, hk, rfl⟩ := hrel
    have hck := hl k (by omega)
    have hk9 : k < 9 := by omega
    clear hl
    by_cases hki : k = i
    · subst hki
      go_wp2_with fail
      refine (is_same _ _).mono ?_
      rintro e w' ⟨rfl, rfl⟩
      go_wp2_with fail
      go_ret2
      exact ⟨by go_num, hb2⟩
    · obtain ⟨ca, ta, hra⟩ := hS2.row i hi
      obtain ⟨cb, tb, hrb⟩ := hS2.row k hk9
      have hne : A i ≠ A k := fun h => hS2.other k i (by omega) hi h.symm
      go_wp2_with fail
      refine (is_other _ _ ca cb ta tb _ hne hra hrb).mono ?_
      rintro e w' ⟨rfl, rfl⟩
      go_wp2_with fail
      go_round
      case rel => exact ⟨k + 1, by omega, by go_num⟩
      case measure => simp [intOf]; omega
end Go.Proofs.YtonhpkigoplmaaaGreatDoor
namespace Go.Proofs.YtonhpkigoplmaaaGreatDoor
open Go.RowKit Go.Extern

theorem c_bits (b : Nat) (w : World) : (MathFloatBits.float64bits #[.float .f64 b]).run Tryz.prog w = .ok (.int .u64 (b : Int)) w := by kernel_rfl
theorem c_from (b : Nat) (w : World) : (MathFloatBits.float64frombits #[.int .u64 (b : Int)]).run Tryz.prog w = .ok (.float .f64 b) w := by kernel_rfl

theorem abs_word (b : Nat) (hb : b < 18446744073709551616) : bits .andNot .u64 (b : Int) 9223372036854775808 = ((b % 9223372036854775808 : Nat) : Int) := by
  have h := u64_andNot_nat b 9223372036854775808 hb (by decide)
  have e2 : ((9223372036854775808 : Nat) : Int) = 9223372036854775808 := rfl
  rw [e2] at h
  rw [h]
  have e3 : 18446744073709551615 - 9223372036854775808 = 9223372036854775807 := by decide
  rw [e3]
  have : b &&& 9223372036854775807 = b % 9223372036854775808 := Nat.and_two_pow_sub_one_eq_mod _ 63
  rw [this]

theorem float_any (b : Nat) (w : World) : Calls Tryz.prog 56 #[.int .u64 (b : Int)] w fun e w' => e = .returned (.float .f64 b) ∧ w' = w := by
  have h93 := @run_callFunc_extern Tryz.prog 113 _ MathFloatBits.float64frombits Tryz.func113 (by kernel_rfl) (by kernel_rfl) (by kernel_rfl) (by kernel_rfl)
  have cf := c_from
  go_enter Tryz.func56, Tryz.ntmps56
  go_wp2
  go_ret
  exact ⟨rfl, rfl⟩

theorem abs_any (b : Nat) (w : World) (hb : b < 18446744073709551616) : Calls Tryz.prog 160 #[.float .f64 b] w fun e w' => e = .returned (.float .f64 (b % 9223372036854775808)) ∧ w' = w := by
  have h89 := @run_callFunc_extern Tryz.prog 99 _ MathFloatBits.float64bits Tryz.func99 (by kernel_rfl) (by kernel_rfl) (by kernel_rfl) (by kernel_rfl)
  have h93 := @run_callFunc_extern Tryz.prog 113 _ MathFloatBits.float64frombits Tryz.func113 (by kernel_rfl) (by kernel_rfl) (by kernel_rfl) (by kernel_rfl)
  have cb := c_bits
  have ha := abs_word b hb
  have cf := c_from (b % 9223372036854775808)
  generalize hr : b % 9223372036854775808 = r at *
  clear hr hb
  go_enter Tryz.func160, Tryz.ntmps160
  go_wp2
  go_ret
  exact ⟨rfl, rfl⟩

theorem isPlain_any (b : Nat) (w : World) (hb : b < 18446744073709551616) : Calls Tryz.prog 112 #[.float .f64 b] w fun e w' => e = .returned (.bool (plainN b).isSome) ∧ w' = w := by
  have hp := isPlainB_eq hb
  rw [← hp]
  have HA : Hid (Calls Tryz.prog 160 #[.float .f64 b] w fun e w' => e = .returned (.float .f64 (b % 9223372036854775808)) ∧ w' = w) := abs_any b w hb
  clear hp hb
  generalize b % 9223372036854775808 = r at *
  have HP : ∀ b0 b1 b2, (FloatKind.f64.format.order r 0 == some Ordering.eq) = b0 → (FloatKind.f64.format.order r 553942754166571008 == some Ordering.gt || FloatKind.f64.format.order r 553942754166571008 == some Ordering.eq) = b1 → (FloatKind.f64.format.order r 8660422083433463808 == some Ordering.lt || FloatKind.f64.format.order r 8660422083433463808 == some Ordering.eq) = b2 → Hid (isPlainB r = (b0 || (b1 && b2))) := by
    intro b0 b1 b2 h0 h1 h2
    subst h0 h1 h2
    rfl
  generalize hb0 : (FloatKind.f64.format.order r 0 == some Ordering.eq) = b0 at *
  generalize hb1 : (FloatKind.f64.format.order r 553942754166571008 == some Ordering.gt || FloatKind.f64.format.order r 553942754166571008 == some Ordering.eq) = b1 at *
  generalize hb2 : (FloatKind.f64.format.order r 8660422083433463808 == some Ordering.lt || FloatKind.f64.format.order r 8660422083433463808 == some Ordering.eq) = b2 at *
  have HP := HP b0 b1 b2 rfl rfl rfl
  cases b0 <;> cases b1 <;> cases b2
  all_goals
    go_enter Tryz.func112, Tryz.ntmps112
    go_wp2_with fail
    refine Calls.mono HA.out ?_
    rintro e w' ⟨rfl, rfl⟩
    clear HA
    go_wp2
    go_ret
    rw [HP.out]
    exact ⟨rfl, rfl⟩

/-- A float's word without a sign at 0. -/
def posW (b : Nat) : Nat := if b % 9223372036854775808 = 0 then 0 else b

theorem plain_eq_zero {b : Nat} (hb : b < 18446744073709551616) (hp : (plainN b).isSome = true) : (FloatKind.f64.format.order b 0 == some Ordering.eq) = decide (b % 9223372036854775808 = 0) := by
  obtain ⟨⟨s, n, e⟩, h⟩ := Option.isSome_iff_exists.1 hp
  show (Ieee.double.order b 0 == some Ordering.eq) = _
  unfold Ieee.Format.order
  have h0 : Ieee.double.read 0 = .number false 0 (-1074) := rfl
  rw [h0]
  rcases plain_read hb h with ⟨rfl, rfl, hz, s', hr⟩ | ⟨hn, hr⟩
  · rw [hr]
    simp only [Ieee.Datum.order, signed_eq, Nat.zero_mul, sg_zero, hz]
    rw [cmp_eq' rfl]; rfl
  · rw [hr]
    simp only [Ieee.Datum.order, signed_eq, Nat.zero_mul, sg_zero]
    have hne : b % 9223372036854775808 ≠ 0 := by
      intro hz
      have : plainN b = some (false, 0, 0) := by
        unfold plainN
        rw [if_pos (by omega)]
      rw [this] at h
      simp at h
      omega
    have hpos : 0 < n * 2 ^ (e - min e (-1074)).toNat := Nat.mul_pos hn (Nat.two_pow_pos _)
    generalize n * 2 ^ (e - min e (-1074)).toNat = m at *
    cases s
    · rw [cmp_gt' (by simp [sg]; omega)]; simp [hne]
    · rw [cmp_lt' (by simp [sg]; omega)]; simp [hne]

theorem oneZero_any (b : Nat) (w : World) (hb : b < 18446744073709551616) (hp : (plainN b).isSome = true) : Calls Tryz.prog 87 #[.float .f64 b] w fun e w' => e = .returned (.float .f64 (posW b)) ∧ w' = w := by
  have he := plain_eq_zero hb hp
  clear hp hb
  by_cases hz : b % 9223372036854775808 = 0
  · have r : posW b = 0 := by unfold posW; rw [if_pos hz]
    rw [r]
    rw [decide_eq_true hz] at he
    clear hz r
    go_enter Tryz.func87, Tryz.ntmps87
    go_wp2
    go_ret
    exact ⟨rfl, rfl⟩
  · have r : posW b = b := by unfold posW; rw [if_neg hz]
    rw [r]
    rw [decide_eq_false hz] at he
    clear hz r
    go_enter Tryz.func87, Tryz.ntmps87
    go_wp2
    go_ret
    exact ⟨rfl, rfl⟩
end Go.Proofs.YtonhpkigoplmaaaGreatDoor
namespace Go.Proofs.YtonhpkigoplmaaaGreatDoor
open Go.RowKit Go.Extern

theorem run_store_float {P : Program} {w : World} {a : Addr} {m : Mode} (k : FloatKind) (b : Nat) : (store a (.float k b) m).run P w = stored P w a (.float k b) m := run_store P w a _ m rfl
attribute [local go_sem] run_store_float

/-- Is one plain float below another? -/
def lessW (a b : Nat) : Bool :=
  lessN ((plainN a).getD (false, 0, 0)).1 ((plainN a).getD (false, 0, 0)).2.1 ((plainN a).getD (false, 0, 0)).2.2 ((plainN b).getD (false, 0, 0)).1 ((plainN b).getD (false, 0, 0)).2.1 ((plainN b).getD (false, 0, 0)).2.2

/-- What Make gives: the ends' bits, the error's number. -/
def makeN (lo hi : Nat) : Nat × Nat × Nat :=
  if (plainN lo).isSome = false ∨ (plainN hi).isSome = false then (0, 0, 1)
  else if lessW hi lo = true then (0, 0, 2)
  else (posW lo, posW hi, 0)

/-- An error by its number. -/
def errV (A : Nat → Addr) (k : Nat) : Value := if k = 0 then .nilIface else .iface 229 (.pointer (some (A (k - 1))))

theorem order_lessW {lo hi : Nat} (h1 : lo < 18446744073709551616) (h2 : hi < 18446744073709551616) (p1 : (plainN lo).isSome = true) (p2 : (plainN hi).isSome = true) : (FloatKind.f64.format.order lo hi == some Ordering.gt) = lessW hi lo := by
  obtain ⟨⟨sa, na, ea⟩, ha⟩ := Option.isSome_iff_exists.1 p1
  obtain ⟨⟨sb, nb, eb⟩, hb⟩ := Option.isSome_iff_exists.1 p2
  have := plain_order h1 h2 ha hb
  unfold lessW
  rw [ha, hb]
  exact this

/-- What Make hands back, as values. -/
def MakeR (A : Nat → Addr) (lo hi : Nat) (w : World) (ev : Ending) (w' : World) : Prop :=
  ev = .returned (.tuple #[.agg #[.float .f64 (makeN lo hi).1, .float .f64 (makeN lo hi).2.1], errV A (makeN lo hi).2.2]) ∧ Below w.heap.size w w'

set_option maxHeartbeats 1000000 in
theorem make_any (A : Nat → Addr) (lo hi : Nat) (w : World) (h1 : lo < 18446744073709551616) (h2 : hi < 18446744073709551616) (hS : Sents A w) :
    Calls Tryz.prog 55 #[.float .f64 lo, .float .f64 hi] w fun ev w' => MakeR A lo hi w ev w' := by
  have H1 : Hid (∀ w, Calls Tryz.prog 112 #[.float .f64 lo] w fun e w' => e = .returned (.bool (plainN lo).isSome) ∧ w' = w) := fun w => isPlain_any lo w h1
  have H2 : Hid (∀ w, Calls Tryz.prog 112 #[.float .f64 hi] w fun e w' => e = .returned (.bool (plainN hi).isSome) ∧ w' = w) := fun w => isPlain_any hi w h2
  have cf : ∀ o, (w.alloc o).cell? ⟨3, 0, none⟩ = some (.iface 229 (.pointer (some (A 0)))) := fun o => (hS.alloc o).cell 0 (by omega)
  have co : ∀ o, (w.alloc o).cell? ⟨4, 0, none⟩ = some (.iface 229 (.pointer (some (A 1)))) := fun o => (hS.alloc o).cell 1 (by omega)
  clear hS
  cases p1 : (plainN lo).isSome
  · have r : Hid (makeN lo hi = (0, 0, 1)) := by show _ = _; unfold makeN; rw [if_pos (Or.inl p1)]
    rw [p1] at H1
    clear p1
    go_enter Tryz.func55, Tryz.ntmps55
    go_wp2_with fail
    refine Calls.mono (H1.out _) ?_
    rintro e w' ⟨rfl, rfl⟩
    clear H1 H2
    go_wp2_with fail
    go_region
    go_wp2
    refine bodyPost_ret (v := .tuple #[.agg #[.float .f64 0, .float .f64 0], .iface 229 (.pointer (some (A 0)))]) (by simp [results, Tryz.results55, go_sem]) rfl ?_
    unfold MakeR
    rw [r.out]
    exact ⟨rfl, ((Below.refl _ _).alloc (Nat.le_refl _) _).drew⟩
  · cases p2 : (plainN hi).isSome
    · have r : Hid (makeN lo hi = (0, 0, 1)) := by show _ = _; unfold makeN; rw [if_pos (Or.inr p2)]
      rw [p1] at H1
      rw [p2] at H2
      clear p1 p2
      go_enter Tryz.func55, Tryz.ntmps55
      go_wp2_with fail
      refine Calls.mono (H1.out _) ?_
      rintro e w' ⟨rfl, rfl⟩
      clear H1
      go_wp2_with fail
      refine Calls.mono (H2.out _) ?_
      rintro e w' ⟨rfl, rfl⟩
      clear H2
      go_wp2_with fail
      go_region
      go_wp2
      refine bodyPost_ret (v := .tuple #[.agg #[.float .f64 0, .float .f64 0], .iface 229 (.pointer (some (A 0)))]) (by simp [results, Tryz.results55, go_sem]) rfl ?_
      unfold MakeR
      rw [r.out]
      exact ⟨rfl, ((Below.refl _ _).alloc (Nat.le_refl _) _).drew⟩
    · have ho := order_lessW h1 h2 p1 p2
      have O1 : Hid (∀ w, Calls Tryz.prog 87 #[.float .f64 lo] w fun e w' => e = .returned (.float .f64 (posW lo)) ∧ w' = w) := fun w => oneZero_any lo w h1 p1
      have O2 : Hid (∀ w, Calls Tryz.prog 87 #[.float .f64 hi] w fun e w' => e = .returned (.float .f64 (posW hi)) ∧ w' = w) := fun w => oneZero_any hi w h2 p2
      have P1 : Hid ((plainN lo).isSome = true) := p1
      have P2 : Hid ((plainN hi).isSome = true) := p2
      rw [p1] at H1
      rw [p2] at H2
      clear p1 p2
      cases hl : lessW hi lo
      · have r : Hid (makeN lo hi = (posW lo, posW hi, 0)) := by show _ = _; unfold makeN; rw [if_neg (by rw [P1.out, P2.out]; simp), if_neg (by rw [hl]; simp)]
        rw [hl] at ho
        clear hl P1 P2
        go_enter Tryz.func55, Tryz.ntmps55
        go_wp2_with fail
        refine Calls.mono (H1.out _) ?_
        rintro e w' ⟨rfl, rfl⟩
        clear H1
        go_wp2_with fail
        refine Calls.mono (H2.out _) ?_
        rintro e w' ⟨rfl, rfl⟩
        clear H2
        go_wp2_with fail
        refine Calls.mono (O1.out _) ?_
        rintro e w' ⟨rfl, rfl⟩
        clear O1
        go_wp2_with fail
        refine Calls.mono (O2.out _) ?_
        rintro e w' ⟨rfl, rfl⟩
        clear O2
        go_wp2
        refine bodyPost_ret (v := .tuple #[.agg #[.float .f64 (posW lo), .float .f64 (posW hi)], .nilIface]) (by simp [results, Tryz.results55, go_sem]) rfl ?_
        unfold MakeR
        rw [r.out]
        exact ⟨rfl, (Below.refl _ _).alloc (Nat.le_refl _) _⟩
      · have r : Hid (makeN lo hi = (0, 0, 2)) := by show _ = _; unfold makeN; rw [if_neg (by rw [P1.out, P2.out]; simp), if_pos hl]
        rw [hl] at ho
        clear hl P1 P2 O1 O2
        go_enter Tryz.func55, Tryz.ntmps55
        go_wp2_with fail
        refine Calls.mono (H1.out _) ?_
        rintro e w' ⟨rfl, rfl⟩
        clear H1
        go_wp2_with fail
        refine Calls.mono (H2.out _) ?_
        rintro e w' ⟨rfl, rfl⟩
        clear H2
        go_wp2_with fail
        go_region
        go_wp2
        refine bodyPost_ret (v := .tuple #[.agg #[.float .f64 0, .float .f64 0], .iface 229 (.pointer (some (A 1)))]) (by simp [results, Tryz.results55, go_sem]) rfl ?_
        unfold MakeR
        rw [r.out]
        exact ⟨rfl, ((Below.refl _ _).alloc (Nat.le_refl _) _).drew⟩
end Go.Proofs.YtonhpkigoplmaaaGreatDoor
namespace Go.Proofs.YtonhpkigoplmaaaGreatDoor
open Go.RowKit

/-- How many bits a number has. -/
def bl (n : Nat) : Nat := if n = 0 then 0 else n.log2 + 1

theorem bl_zero : bl 0 = 0 := rfl
theorem bl_bounds {n : Nat} (h : 0 < n) : 2 ^ (bl n - 1) ≤ n ∧ n < 2 ^ bl n ∧ 0 < bl n := by
  have hn : n ≠ 0 := by omega
  unfold bl
  rw [if_neg hn]
  exact ⟨by simpa using Nat.log2_self_le hn, Nat.lt_log2_self, by omega⟩

theorem bl_unique {n k : Nat} (h1 : 2 ^ k ≤ n) (h2 : n < 2 ^ (k + 1)) : bl n = k + 1 := by
  have hn : 0 < n := Nat.lt_of_lt_of_le (Nat.two_pow_pos k) h1
  obtain ⟨b1, b2, b3⟩ := bl_bounds hn
  have c1 : 2 ^ (bl n - 1) < 2 ^ (k + 1) := Nat.lt_of_le_of_lt b1 h2
  have c2 : 2 ^ k < 2 ^ bl n := Nat.lt_of_le_of_lt h1 b2
  have d1 := (Nat.pow_lt_pow_iff_right (by decide : 1 < 2)).1 c1
  have d2 := (Nat.pow_lt_pow_iff_right (by decide : 1 < 2)).1 c2
  omega

end Go.Proofs.YtonhpkigoplmaaaGreatDoor
namespace Go.Proofs.YtonhpkigoplmaaaGreatDoor
open Go.RowKit

end Go.Proofs.YtonhpkigoplmaaaGreatDoor
namespace Go.Proofs.YtonhpkigoplmaaaGreatDoor
open Go.RowKit

/-- A number of 53 bits as a float. -/
def packN (s : Bool) (m : Nat) (e : Int) : Nat × Bool :=
  if e + 1075 < 123 ∨ 1923 < e + 1075 ∨ (e + 1075 = 1923 ∧ 4503599627370496 < m) then (0, false)
  else (m - 4503599627370496 + (e + 1075).toNat * 4503599627370496 + (if s then 9223372036854775808 else 0), true)

end Go.Proofs.YtonhpkigoplmaaaGreatDoor
