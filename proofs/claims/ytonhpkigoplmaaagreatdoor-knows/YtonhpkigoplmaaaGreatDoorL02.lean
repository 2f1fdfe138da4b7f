/-
  KnowW, KnowX, LawK, KnowsProof.
-/
import Derived.Test.YtonhpkigoplmaaaGreatDoorL01
import Derived.Test.YtonhpkigoplmaaaGreatDoorJ21
import Derived.Test.YtonhpkigoplmaaaGreatDoorRows
import Derived.Test.YtonhpkigoplmaaaGreatDoorCards
import Derived.Test.YtonhpkigoplmaaaGreatDoorTie
import Derived.Test.YtonhpkigoplmaaaGreatDoorJ22
import Derived.ProofKit
import Derived.LaidMore
import Derived.OpenShut
import Derived.Stop.Joined
import Derived.SevenTiedAt
import Derived.SizedLaws
namespace Go.Proofs.YtonhpkigoplmaaaGreatDoor
open Go.RowKit

theorem i64_low30 (n : Int) : bits .and .i64 n 1073741823 = n % 1073741824 := by
  show IntKind.i64.wrap ((BitVec.ofInt 64 n &&& BitVec.ofInt 64 1073741823).toNat : Int) = _
  rw [BitVec.toNat_and, ofInt_nat, ofInt_nat, IntKind.wrap_i64, show ((1073741823 : Int) % 18446744073709551616).toNat = 1073741823 by decide]
  have : (n % 18446744073709551616).toNat &&& 1073741823 = (n % 18446744073709551616).toNat % 1073741824 := Nat.and_two_pow_sub_one_eq_mod _ 30
  rw [this]
  omega

set_option maxRecDepth 100000 in
theorem small_any (n : Int) (w : World) : Calls Tryz.prog 19 #[.int .i64 n, .int .i64 30] w fun e w' => e = .returned (.int .i64 (n % 1073741824 - 536870912)) ∧ Below w.heap.size w w' := by
  have hb := i64_low30 n
  go_enter Tryz.func19, Tryz.ntmps19
  go_wp2_with fail
  go_region
  go_wp2
  go_ret
  exact ⟨rfl, (Below.refl _ _).drew⟩

theorem whole_law (A : Nat → Addr) (n : Int) (w : World) (h : n.natAbs ≤ 1152921504606846976) (hS : Sents A w) :
    Calls Tryz.prog 20 #[.int .i64 n] w fun e w' => e = .returned (.tuple #[.agg #[.int .u64 (fl n : Int), .int .u64 (fh n : Int)], .bool true]) ∧ Below w.heap.size w w' := by
  have HX : Hid (∀ W, Below w.heap.size w W → Calls Tryz.prog 32 #[.int .i64 2, .int .i64 n] W fun e w' => e = .returned (.tuple #[.agg #[.int .u64 (fl n : Int), .int .u64 (fh n : Int)], .int .i64 0]) ∧ Below W.heap.size W w') := by
    intro W hb
    have := plainExact_any A 2 n W (by omega) (by omega) (hS.below hb (Nat.le_refl _))
    rw [exact_whole h] at this
    exact this
  have hwn : wrap64 n = n := by unfold wrap64; omega
  clear h hS
  generalize fl n = l at *
  generalize fh n = u at *
  go_enter Tryz.func20, Tryz.ntmps20
  go_wp2_with fail
  have B2 := blk_new w (Obj.cells #[.int .u64 0, .int .u64 0] 33)
  have hW : Below w.heap.size w (w.alloc (Obj.cells #[.int .u64 0, .int .u64 0] 33)) := (Below.refl _ _).alloc (Nat.le_refl _) _
  generalize (w.alloc (Obj.cells #[.int .u64 0, .int .u64 0] 33)) = W2 at *
  refine Calls.mono (HX.out _ hW) ?_
  rintro ev w9 ⟨rfl, hb9⟩
  have HK : Hid (w9.heap[w.heap.size]? = _) := blk_below B2 hb9
  have HB : Hid (Below w.heap.size w w9) := hW.trans (hb9.mono hW.size)
  clear hb9 hW B2 HX
  obtain ⟨q0, q1, q2, q3⟩ := blk2 HK.out
  have lq := lt_of_row HK.out
  go_wp2_with fail
  obtain ⟨p0, p1, -, -⟩ := blk2 (blk_old (blk_store2 (a := .int .u64 (l : Int)) (b := .int .u64 (u : Int)) HK.out) (Obj.cells #[.int .u64 (l : Int), .int .u64 (u : Int)] 33))
  refine bodyPost_ret (v := .tuple #[.agg #[.int .u64 (l : Int), .int .u64 (u : Int)], .bool true]) (by simp [results, Tryz.results20, go_sem, p0, p1]) rfl ?_
  exact ⟨rfl, ((HB.out.setCell (by simp) _).setCell (by simp) _).alloc (by have := HB.out.size; simp; omega) _⟩

set_option maxHeartbeats 1000000 in
set_option maxRecDepth 100000 in
theorem holds_ref (l h : Nat) (n : Int) (w : World) (i : Iv l h) (h1 : -9223372036854775808 ≤ n) (h2 : n < 9223372036854775808) (c1 : lessT (wholeN n) (plT l) = false) (c2 : lessT (plT h) (wholeN n) = false) :
    Calls Tryz.prog 51 #[.agg #[.int .u64 (l : Int), .int .u64 (h : Int)], .int .i64 n] w fun e w' => e = .returned (.bool true) ∧ Below w.heap.size w w' := by
  have HM : Hid (∀ W, Calls Tryz.prog 27 #[.agg #[.int .u64 (l : Int), .int .u64 (h : Int)]] W fun e w' => e = .returned (.tuple #[.agg #[.int .u64 (l : Int), .int .u64 (h : Int)], .int .i64 0]) ∧ Below W.heap.size W w') := by
    intro W
    have := refMake_any l h W i.lt1 i.lt2
    rw [make_iv i] at this
    exact this
  have HD : Hid (MadeG #[.agg #[.int .u64 (l : Int), .int .u64 (h : Int)]] (plT l) (plT h)) := by
    have := made_gives l h i.lt1 i.lt2
    rw [make_iv i] at this
    exact this
  have HW : Hid (∀ W, Calls Tryz.prog 78 #[.int .i64 n] W fun e w' => ∃ co lc cc, e = .returned (.agg #[.bool (wholeN n).1, .slice co lc cc, .int .i64 (wholeN n).2.2]) ∧ lc = (digits (wholeN n).2.1).length ∧ NatV w' (.slice co lc cc) (wholeN n).2.1 ∧ Below W.heap.size W w') := by
    intro W
    refine (whole_any n W h1 h2).mono ?_
    rintro e w' ⟨v, rfl, ⟨co, lc, cc, rfl, e1, e2⟩, hb⟩
    exact ⟨co, lc, cc, rfl, e1, e2, hb⟩
  have sn : Small (wholeN n) ∧ (digits (wholeN n).2.1).length ≤ 400000 := ⟨whole_small h1 h2, by have := len_of_bl (wholeN n).2.1; have := (whole_small h1 h2).1; omega⟩
  have sl := (pl_of i.p1).sm.both
  have sh := (pl_of i.p2).sm.both
  have less : ∀ (x y : Bool × Nat × Int) (u v : Value) (w' : World), (Small x ∧ (digits x.2.1).length ≤ 400000) → (Small y ∧ (digits y.2.1).length ≤ 400000) → NumV w' u x.1 x.2.1 x.2.2 → NumV w' v y.1 y.2.1 y.2.2 → Calls Tryz.prog 58 #[u, v] w' fun ev w'' => ev = .returned (.bool (lessT x y)) ∧ Below w'.heap.size w' w'' := by
    intro x y u v w' sx sy hu hv
    obtain ⟨⟨_, p2, p3⟩, p4⟩ := sx
    obtain ⟨⟨_, q2, q3⟩, q4⟩ := sy
    exact less_any _ _ _ _ _ _ _ _ w' hu hv p4 q4 (by omega) (by omega) (by omega) (by omega)
  have HL1 : Hid (∀ (W : World) (u v : Value), NumV W u (wholeN n).1 (wholeN n).2.1 (wholeN n).2.2 → NumV W v (plT l).1 (plT l).2.1 (plT l).2.2 → Calls Tryz.prog 58 #[u, v] W fun ev w'' => ev = .returned (.bool false) ∧ Below W.heap.size W w'') := by
    intro W u v hu hv
    have := less _ _ u v W sn sl hu hv
    rwa [c1] at this
  have HL2 : Hid (∀ (W : World) (u v : Value), NumV W u (plT h).1 (plT h).2.1 (plT h).2.2 → NumV W v (wholeN n).1 (wholeN n).2.1 (wholeN n).2.2 → Calls Tryz.prog 58 #[u, v] W fun ev w'' => ev = .returned (.bool false) ∧ Below W.heap.size W w'') := by
    intro W u v hu hv
    have := less _ _ u v W sh sn hu hv
    rwa [c2] at this
  clear less sn sl sh c1 c2 i h1 h2
  go_enter Tryz.func51, Tryz.ntmps51
  go_wp2_with fail
  have B0 := blk_new w (Obj.cells #[.int .u64 (l : Int), .int .u64 (h : Int)] 28)
  have hW : Below w.heap.size w (w.alloc (Obj.cells #[.int .u64 (l : Int), .int .u64 (h : Int)] 28)) := (Below.refl _ _).alloc (Nat.le_refl _) _
  generalize (w.alloc (Obj.cells #[.int .u64 (l : Int), .int .u64 (h : Int)] 28)) = W2 at *
  refine Calls.mono (HM.out _) ?_
  rintro e w1 ⟨rfl, hb1⟩
  have HW1 : Hid (Below w.heap.size w w1) := hW.trans (hb1.mono hW.size)
  have HB1 : Hid (w1.heap[w.heap.size]? = _) := blk_below B0 hb1
  obtain ⟨x0, x1, -, -⟩ := blk2 HB1.out
  have lx := lt_of_row HB1.out
  clear B0 hW hb1 HM
  go_wp2_with fail
  have HW2 : Hid (Below w.heap.size w (w1.alloc (Obj.cells #[.int .u64 (l : Int), .int .u64 (h : Int)] 28))) := HW1.out.alloc HW1.out.size _
  clear HW1 HB1 x0 x1 lx
  generalize (w1.alloc (Obj.cells #[.int .u64 (l : Int), .int .u64 (h : Int)] 28)) = W3 at *
  refine Calls.mono (HD.out _) ?_
  rintro e w2 ⟨ao, la, ca, bo, lb, cb, rfl, hla, hlb, hna, hnb, hb2⟩
  have HW3 : Hid (Below w.heap.size w (w2.alloc (Obj.cells #[.bool (plT l).1, .slice ao la ca, .int .i64 (plT l).2.2, .bool (plT h).1, .slice bo lb cb, .int .i64 (plT h).2.2] 98))) := (HW2.out.trans (hb2.mono HW2.out.size)).alloc (Nat.le_trans HW2.out.size hb2.size) _
  have LA : Hid (la = _) := hla
  have LB : Hid (lb = _) := hlb
  have NA : Hid (NatV (w2.alloc (Obj.cells #[.bool (plT l).1, .slice ao la ca, .int .i64 (plT l).2.2, .bool (plT h).1, .slice bo lb cb, .int .i64 (plT h).2.2] 98)) (.slice ao la ca) _) := hna.below ((Below.refl _ _).alloc (Nat.le_refl _) _) (Nat.le_refl _)
  have NB : Hid (NatV (w2.alloc (Obj.cells #[.bool (plT l).1, .slice ao la ca, .int .i64 (plT l).2.2, .bool (plT h).1, .slice bo lb cb, .int .i64 (plT h).2.2] 98)) (.slice bo lb cb) _) := hnb.below ((Below.refl _ _).alloc (Nat.le_refl _) _) (Nat.le_refl _)
  have C0 := blk_new w2 (Obj.cells #[.bool (plT l).1, .slice ao la ca, .int .i64 (plT l).2.2, .bool (plT h).1, .slice bo lb cb, .int .i64 (plT h).2.2] 98)
  clear hla hlb hna hnb hb2 HW2 HD
  go_wp2_with fail
  generalize hga : w2.heap.size = ga at *
  generalize (w2.alloc (Obj.cells #[.bool (plT l).1, .slice ao la ca, .int .i64 (plT l).2.2, .bool (plT h).1, .slice bo lb cb, .int .i64 (plT h).2.2] 98)) = W4 at *
  refine Calls.mono (HW.out _) ?_
  rintro e w3 ⟨co, lc, cc, rfl, hlc, hnc, hb3⟩
  have hS3 : Below W4.heap.size W4 (w3.alloc (Obj.cells #[.bool (wholeN n).1, .slice co lc cc, .int .i64 (wholeN n).2.2] 92)) := hb3.alloc hb3.size _
  have HW4 : Hid (Below w.heap.size w (w3.alloc (Obj.cells #[.bool (wholeN n).1, .slice co lc cc, .int .i64 (wholeN n).2.2] 92))) := HW3.out.trans (hS3.mono HW3.out.size)
  have LC : Hid (lc = _) := hlc
  have NA : Hid (NatV (w3.alloc (Obj.cells #[.bool (wholeN n).1, .slice co lc cc, .int .i64 (wholeN n).2.2] 92)) (.slice ao la ca) _) := NA.out.below hS3 (Nat.le_refl _)
  have NB : Hid (NatV (w3.alloc (Obj.cells #[.bool (wholeN n).1, .slice co lc cc, .int .i64 (wholeN n).2.2] 92)) (.slice bo lb cb) _) := NB.out.below hS3 (Nat.le_refl _)
  have NC : Hid (NatV (w3.alloc (Obj.cells #[.bool (wholeN n).1, .slice co lc cc, .int .i64 (wholeN n).2.2] 92)) (.slice co lc cc) _) := hnc.below ((Below.refl _ _).alloc (Nat.le_refl _) _) (Nat.le_refl _)
  have D0 : Hid ((w3.alloc (Obj.cells #[.bool (wholeN n).1, .slice co lc cc, .int .i64 (wholeN n).2.2] 92)).heap[ga]? = _) := blk_old (blk_below C0 hb3) _
  have D1 : Hid ((w3.alloc (Obj.cells #[.bool (wholeN n).1, .slice co lc cc, .int .i64 (wholeN n).2.2] 92)).heap[w3.heap.size]? = _) := blk_new w3 _
  obtain ⟨y0, y1, y2, y3, y4, y5, -, -, -, -, -, -⟩ := blk6 (blk_below C0 hb3)
  have ly := lt_of_row (blk_below C0 hb3)
  clear hlc hnc hb3 hS3 HW3 HW C0
  go_wp2_with fail
  clear y0 y1 y2 y3 y4 y5 ly
  generalize hgc : w3.heap.size = gc at *
  generalize (w3.alloc (Obj.cells #[.bool (wholeN n).1, .slice co lc cc, .int .i64 (wholeN n).2.2] 92)) = W5 at *
  refine Calls.mono (HL1.out _ _ _ ⟨_, _, _, rfl, LC.out, NC.out⟩ ⟨_, _, _, rfl, LA.out, NA.out⟩) ?_
  rintro e w4 ⟨rfl, hb4⟩
  have HW5 : Hid (Below w.heap.size w w4) := HW4.out.trans (hb4.mono HW4.out.size)
  have NB : Hid (NatV w4 (.slice bo lb cb) _) := NB.out.below hb4 (Nat.le_refl _)
  have NC : Hid (NatV w4 (.slice co lc cc) _) := NC.out.below hb4 (Nat.le_refl _)
  obtain ⟨y0, y1, y2, y3, y4, y5, -, -, -, -, -, -⟩ := blk6 (blk_below D0.out hb4)
  obtain ⟨z0, z1, z2, -, -, -⟩ := blk3 (blk_below D1.out hb4)
  clear hb4 D0 D1 NA HW4 HL1
  go_wp2_with fail
  refine Calls.mono (HL2.out _ _ _ ⟨_, _, _, rfl, LB.out, NB.out⟩ ⟨_, _, _, rfl, LC.out, NC.out⟩) ?_
  rintro e w5 ⟨rfl, hb5⟩
  have hZ : Below w.heap.size w w5 := HW5.out.trans (hb5.mono HW5.out.size)
  clear hb5 y0 y1 y2 y3 y4 y5 z0 z1 z2 HW5 HL2 NB NC
  go_wp2
  go_ret
  exact ⟨rfl, hZ⟩

theorem holds_law (l h : Nat) (n : Int) (w : World) (i : Iv l h) (h1 : -9223372036854775808 ≤ n) (h2 : n < 9223372036854775808) (c1 : lessT (wholeN n) (plT l) = false) (c2 : lessT (plT h) (wholeN n) = false) :
    Calls Tryz.prog 22 #[.agg #[.int .u64 (l : Int), .int .u64 (h : Int)], .int .i64 n] w fun e w' => e = .returned (.bool true) ∧ Below w.heap.size w w' := by
  have H : Hid (∀ W, Calls Tryz.prog 51 #[.agg #[.int .u64 (l : Int), .int .u64 (h : Int)], .int .i64 n] W fun e w' => e = .returned (.bool true) ∧ Below W.heap.size W w') := fun W => holds_ref l h n W i h1 h2 c1 c2
  clear i h1 h2 c1 c2
  go_enter Tryz.func22, Tryz.ntmps22
  go_wp2_with fail
  refine Calls.mono (H.out _) ?_
  rintro e w5 ⟨rfl, hb5⟩
  have hZ : Below w.heap.size w w5 := ((Below.refl _ w).alloc (Nat.le_refl _) _).trans (hb5.mono (by simp))
  clear hb5 H
  go_wp2
  go_ret
  exact ⟨rfl, hZ⟩
end Go.Proofs.YtonhpkigoplmaaaGreatDoor
namespace Go.Proofs.YtonhpkigoplmaaaGreatDoor
open Go.RowKit

/-- The boxes of knows. -/
structure KSt (w W : World) (gx gy gz : Nat) (pl ph ql qh zl zh : Nat) : Prop where
  kx : W.heap[gx]? = some (.cells #[.int .u64 (pl : Int), .int .u64 (ph : Int)] 33 (0, 0))
  ky : W.heap[gy]? = some (.cells #[.int .u64 (ql : Int), .int .u64 (qh : Int)] 33 (0, 0))
  kz : W.heap[gz]? = some (.cells #[.int .u64 (zl : Int), .int .u64 (zh : Int)] 33 (0, 0))
  hb : Below w.heap.size w W
theorem KSt.below {w W W' : World} {gx gy gz pl ph ql qh zl zh : Nat} (m : KSt w W gx gy gz pl ph ql qh zl zh) (hb : Below W.heap.size W W') : KSt w W' gx gy gz pl ph ql qh zl zh := ⟨blk_below m.kx hb, blk_below m.ky hb, blk_below m.kz hb, m.hb.trans (hb.mono m.hb.size)⟩
theorem KSt.alloc {w W : World} {gx gy gz pl ph ql qh zl zh : Nat} (m : KSt w W gx gy gz pl ph ql qh zl zh) (o : Obj) : KSt w (W.alloc o) gx gy gz pl ph ql qh zl zh := m.below ((Below.refl _ _).alloc (Nat.le_refl _) o)

set_option maxHeartbeats 4000000 in
set_option maxRecDepth 100000 in
theorem knows_zero (k oa ob : Int) (s : ByteArray) (xl xh yl yh : Int) (po : Option Addr) (pl_ pc : Nat) (a b : Int) (pl ph ql qh zl zh s_l s_h d_l d_h m_l m_h r_l r_h : Nat) (w : World)
    (a1 : a.natAbs ≤ 536870912) (b1 : b.natAbs ≤ 536870912) (ab1 : -9223372036854775808 ≤ a * b) (ab2 : a * b < 9223372036854775808) (hb0 : b = 0)
    (ha : ∀ W, Calls Tryz.prog 19 #[.int .i64 oa, .int .i64 30] W fun e w' => e = .returned (.int .i64 a) ∧ Below W.heap.size W w')
    (hb : ∀ W, Calls Tryz.prog 19 #[.int .i64 ob, .int .i64 30] W fun e w' => e = .returned (.int .i64 b) ∧ Below W.heap.size W w')
    (hx : ∀ W, Below w.heap.size w W → Calls Tryz.prog 20 #[.int .i64 a] W fun e w' => e = .returned (.tuple #[.agg #[.int .u64 (pl : Int), .int .u64 (ph : Int)], .bool true]) ∧ Below W.heap.size W w')
    (hy : ∀ W, Below w.heap.size w W → Calls Tryz.prog 20 #[.int .i64 b] W fun e w' => e = .returned (.tuple #[.agg #[.int .u64 (ql : Int), .int .u64 (qh : Int)], .bool true]) ∧ Below W.heap.size W w')
    (hz : ∀ W, Below w.heap.size w W → Calls Tryz.prog 20 #[.int .i64 (a * b)] W fun e w' => e = .returned (.tuple #[.agg #[.int .u64 (zl : Int), .int .u64 (zh : Int)], .bool true]) ∧ Below W.heap.size W w')
    (h3 : ∀ W, Below w.heap.size w W → Calls Tryz.prog 21 #[.int .i64 3, .agg #[.int .u64 (pl : Int), .int .u64 (ph : Int)], .agg #[.int .u64 (ql : Int), .int .u64 (qh : Int)]] W fun e w' => e = .returned (.tuple #[.agg #[.int .u64 (s_l : Int), .int .u64 (s_h : Int)], .int .i64 0, .string ⟨#[]⟩]) ∧ Below W.heap.size W w')
    (h4 : ∀ W, Below w.heap.size w W → Calls Tryz.prog 21 #[.int .i64 4, .agg #[.int .u64 (pl : Int), .int .u64 (ph : Int)], .agg #[.int .u64 (ql : Int), .int .u64 (qh : Int)]] W fun e w' => e = .returned (.tuple #[.agg #[.int .u64 (d_l : Int), .int .u64 (d_h : Int)], .int .i64 0, .string ⟨#[]⟩]) ∧ Below W.heap.size W w')
    (h5 : ∀ W, Below w.heap.size w W → Calls Tryz.prog 21 #[.int .i64 5, .agg #[.int .u64 (pl : Int), .int .u64 (ph : Int)], .agg #[.int .u64 (ql : Int), .int .u64 (qh : Int)]] W fun e w' => e = .returned (.tuple #[.agg #[.int .u64 (m_l : Int), .int .u64 (m_h : Int)], .int .i64 0, .string ⟨#[]⟩]) ∧ Below W.heap.size W w')
    (hs : ∀ W, Calls Tryz.prog 22 #[.agg #[.int .u64 (s_l : Int), .int .u64 (s_h : Int)], .int .i64 (a + b)] W fun e w' => e = .returned (.bool true) ∧ Below W.heap.size W w')
    (hd : ∀ W, Calls Tryz.prog 22 #[.agg #[.int .u64 (d_l : Int), .int .u64 (d_h : Int)], .int .i64 (a - b)] W fun e w' => e = .returned (.bool true) ∧ Below W.heap.size W w')
    (hm : ∀ W, Calls Tryz.prog 22 #[.agg #[.int .u64 (m_l : Int), .int .u64 (m_h : Int)], .int .i64 (a * b)] W fun e w' => e = .returned (.bool true) ∧ Below W.heap.size W w')
    (h6 : ∀ W, Below w.heap.size w W → Calls Tryz.prog 21 #[.int .i64 6, .agg #[.int .u64 (zl : Int), .int .u64 (zh : Int)], .agg #[.int .u64 (ql : Int), .int .u64 (qh : Int)]] W fun e w' => e = .returned (.tuple #[.agg #[.int .u64 (r_l : Int), .int .u64 (r_h : Int)], .int .i64 4, .string ⟨#[47]⟩]) ∧ Below W.heap.size W w') :
    Calls Tryz.prog 15 #[.agg #[Value.int IntKind.i64 k, Value.int IntKind.i64 oa, Value.int IntKind.i64 ob, Value.string s, Value.int IntKind.u64 xl, Value.int IntKind.u64 xh, Value.int IntKind.u64 yl, Value.int IntKind.u64 yh, Value.slice po pl_ pc]] w fun e w' => e = .returned (.bool true) ∧ Below w.heap.size w w' := by
  have HA : Hid (∀ W, Calls Tryz.prog 19 #[.int .i64 oa, .int .i64 30] W fun e w' => e = .returned (.int .i64 a) ∧ Below W.heap.size W w') := ha
  have HB : Hid (∀ W, Calls Tryz.prog 19 #[.int .i64 ob, .int .i64 30] W fun e w' => e = .returned (.int .i64 b) ∧ Below W.heap.size W w') := hb
  have HX : Hid (∀ W, Below w.heap.size w W → Calls Tryz.prog 20 #[.int .i64 a] W fun e w' => e = .returned (.tuple #[.agg #[.int .u64 (pl : Int), .int .u64 (ph : Int)], .bool true]) ∧ Below W.heap.size W w') := hx
  have HY : Hid (∀ W, Below w.heap.size w W → Calls Tryz.prog 20 #[.int .i64 b] W fun e w' => e = .returned (.tuple #[.agg #[.int .u64 (ql : Int), .int .u64 (qh : Int)], .bool true]) ∧ Below W.heap.size W w') := hy
  have HZ : Hid (∀ W, Below w.heap.size w W → Calls Tryz.prog 20 #[.int .i64 (a * b)] W fun e w' => e = .returned (.tuple #[.agg #[.int .u64 (zl : Int), .int .u64 (zh : Int)], .bool true]) ∧ Below W.heap.size W w') := hz
  have H3 : Hid (∀ W, Below w.heap.size w W → Calls Tryz.prog 21 #[.int .i64 3, .agg #[.int .u64 (pl : Int), .int .u64 (ph : Int)], .agg #[.int .u64 (ql : Int), .int .u64 (qh : Int)]] W fun e w' => e = .returned (.tuple #[.agg #[.int .u64 (s_l : Int), .int .u64 (s_h : Int)], .int .i64 0, .string ⟨#[]⟩]) ∧ Below W.heap.size W w') := h3
  have H4 : Hid (∀ W, Below w.heap.size w W → Calls Tryz.prog 21 #[.int .i64 4, .agg #[.int .u64 (pl : Int), .int .u64 (ph : Int)], .agg #[.int .u64 (ql : Int), .int .u64 (qh : Int)]] W fun e w' => e = .returned (.tuple #[.agg #[.int .u64 (d_l : Int), .int .u64 (d_h : Int)], .int .i64 0, .string ⟨#[]⟩]) ∧ Below W.heap.size W w') := h4
  have H5 : Hid (∀ W, Below w.heap.size w W → Calls Tryz.prog 21 #[.int .i64 5, .agg #[.int .u64 (pl : Int), .int .u64 (ph : Int)], .agg #[.int .u64 (ql : Int), .int .u64 (qh : Int)]] W fun e w' => e = .returned (.tuple #[.agg #[.int .u64 (m_l : Int), .int .u64 (m_h : Int)], .int .i64 0, .string ⟨#[]⟩]) ∧ Below W.heap.size W w') := h5
  have HS : Hid (∀ W, Calls Tryz.prog 22 #[.agg #[.int .u64 (s_l : Int), .int .u64 (s_h : Int)], .int .i64 (a + b)] W fun e w' => e = .returned (.bool true) ∧ Below W.heap.size W w') := hs
  have HD : Hid (∀ W, Calls Tryz.prog 22 #[.agg #[.int .u64 (d_l : Int), .int .u64 (d_h : Int)], .int .i64 (a - b)] W fun e w' => e = .returned (.bool true) ∧ Below W.heap.size W w') := hd
  have HM : Hid (∀ W, Calls Tryz.prog 22 #[.agg #[.int .u64 (m_l : Int), .int .u64 (m_h : Int)], .int .i64 (a * b)] W fun e w' => e = .returned (.bool true) ∧ Below W.heap.size W w') := hm
  have H6 : Hid (∀ W, Below w.heap.size w W → Calls Tryz.prog 21 #[.int .i64 6, .agg #[.int .u64 (zl : Int), .int .u64 (zh : Int)], .agg #[.int .u64 (ql : Int), .int .u64 (qh : Int)]] W fun e w' => e = .returned (.tuple #[.agg #[.int .u64 (r_l : Int), .int .u64 (r_h : Int)], .int .i64 4, .string ⟨#[47]⟩]) ∧ Below W.heap.size W w') := h6
  have HZ0 : Hid (b = 0) := hb0
  clear hb0 ha hb hx hy hz h3 h4 h5 hs hd hm h6
  have a2 : -536870912 ≤ a ∧ a ≤ 536870912 := by omega
  have b2 : -536870912 ≤ b ∧ b ≤ 536870912 := by omega
  clear a1 b1
  obtain ⟨a3, a4⟩ := a2
  obtain ⟨b3, b4⟩ := b2
  go_enter Tryz.func15, Tryz.ntmps15
  go_wp2_with fail
  have B0 := blk_new w (Obj.cells #[Value.int IntKind.i64 k, Value.int IntKind.i64 oa, Value.int IntKind.i64 ob, Value.string s, Value.int IntKind.u64 xl, Value.int IntKind.u64 xh, Value.int IntKind.u64 yl, Value.int IntKind.u64 yh, Value.slice po pl_ pc] 31)
  have hW : Below w.heap.size w (w.alloc (Obj.cells #[Value.int IntKind.i64 k, Value.int IntKind.i64 oa, Value.int IntKind.i64 ob, Value.string s, Value.int IntKind.u64 xl, Value.int IntKind.u64 xh, Value.int IntKind.u64 yl, Value.int IntKind.u64 yh, Value.slice po pl_ pc] 31)) := (Below.refl _ _).alloc (Nat.le_refl _) _
  generalize (w.alloc (Obj.cells #[Value.int IntKind.i64 k, Value.int IntKind.i64 oa, Value.int IntKind.i64 ob, Value.string s, Value.int IntKind.u64 xl, Value.int IntKind.u64 xh, Value.int IntKind.u64 yl, Value.int IntKind.u64 yh, Value.slice po pl_ pc] 31)) = W1 at *
  refine Calls.mono (HA.out _) ?_
  rintro e w1 ⟨rfl, hb1⟩
  have HW1 : Hid (Below w.heap.size w w1) := hW.trans (hb1.mono hW.size)
  have B1 := blk_below B0 hb1
  obtain ⟨-, -, k2, -, -, -, -, -, -⟩ := blk9 B1
  clear B0 B1 hW hb1 HA
  go_wp2_with fail
  refine Calls.mono (HB.out _) ?_
  rintro e w2 ⟨rfl, hb2⟩
  have HW2 : Hid (Below w.heap.size w w2) := HW1.out.trans (hb2.mono HW1.out.size)
  clear hb2 HW1 k2 HB
  go_wp2_with fail
  refine Calls.mono (HX.out _ HW2.out) ?_
  rintro e w3 ⟨rfl, hb3⟩
  have HW3 : Hid (Below w.heap.size w (w3.alloc (Obj.cells #[.int .u64 (pl : Int), .int .u64 (ph : Int)] 33))) := (HW2.out.trans (hb3.mono HW2.out.size)).alloc (Nat.le_trans HW2.out.size hb3.size) _
  have BX : Hid ((w3.alloc (Obj.cells #[.int .u64 (pl : Int), .int .u64 (ph : Int)] 33)).heap[w3.heap.size]? = _) := blk_new w3 _
  clear hb3 HW2 HX
  go_wp2_with fail
  generalize hgx : w3.heap.size = gx at *
  generalize (w3.alloc (Obj.cells #[.int .u64 (pl : Int), .int .u64 (ph : Int)] 33)) = W3 at *
  refine Calls.mono (HY.out _ HW3.out) ?_
  rintro e w4 ⟨rfl, hb4⟩
  have HW4 : Hid (Below w.heap.size w (w4.alloc (Obj.cells #[.int .u64 (ql : Int), .int .u64 (qh : Int)] 33))) := (HW3.out.trans (hb4.mono HW3.out.size)).alloc (Nat.le_trans HW3.out.size hb4.size) _
  have BX4 : Hid ((w4.alloc (Obj.cells #[.int .u64 (ql : Int), .int .u64 (qh : Int)] 33)).heap[gx]? = _) := blk_old (blk_below BX.out hb4) _
  have BY4 : Hid ((w4.alloc (Obj.cells #[.int .u64 (ql : Int), .int .u64 (qh : Int)] 33)).heap[w4.heap.size]? = _) := blk_new w4 _
  clear hb4 HW3 HY BX
  go_wp2_with fail
  generalize hgy : w4.heap.size = gy at *
  generalize (w4.alloc (Obj.cells #[.int .u64 (ql : Int), .int .u64 (qh : Int)] 33)) = W4 at *
  refine Calls.mono (HZ.out _ HW4.out) ?_
  rintro e w5 ⟨rfl, hb5⟩
  have m5 : Hid (KSt w (w5.alloc (Obj.cells #[.int .u64 (zl : Int), .int .u64 (zh : Int)] 33)) gx gy w5.heap.size pl ph ql qh zl zh) := ⟨blk_old (blk_below BX4.out hb5) _, blk_old (blk_below BY4.out hb5) _, blk_new w5 _, (HW4.out.trans (hb5.mono HW4.out.size)).alloc (Nat.le_trans HW4.out.size hb5.size) _⟩
  obtain ⟨x0, x1, -, -⟩ := blk2 (blk_below BX4.out hb5)
  obtain ⟨y0, y1, -, -⟩ := blk2 (blk_below BY4.out hb5)
  have lx := lt_of_row (blk_below BX4.out hb5)
  have ly := lt_of_row (blk_below BY4.out hb5)
  clear hb5 HW4 HZ BX4 BY4
  go_wp2_with fail
  clear x0 x1 y0 y1 lx ly
  generalize hgz : w5.heap.size = gz at *
  generalize (w5.alloc (Obj.cells #[.int .u64 (zl : Int), .int .u64 (zh : Int)] 33)) = W5 at *
  refine Calls.mono (H3.out _ m5.out.hb) ?_
  rintro e w6 ⟨rfl, hb⟩
  have Ns_ : Hid ((w6.alloc (Obj.cells #[.int .u64 (s_l : Int), .int .u64 (s_h : Int)] 33)).heap[w6.heap.size]? = _) := blk_new w6 _
  have m6 : Hid (KSt w (w6.alloc (Obj.cells #[.int .u64 (s_l : Int), .int .u64 (s_h : Int)] 33)) gx gy gz pl ph ql qh zl zh) := (m5.out.below hb).alloc _
  obtain ⟨x0, x1, -, -⟩ := blk2 (m5.out.below hb).kx
  obtain ⟨y0, y1, -, -⟩ := blk2 (m5.out.below hb).ky
  have lx := lt_of_row (m5.out.below hb).kx
  have ly := lt_of_row (m5.out.below hb).ky
  clear hb H3 m5
  go_wp2_with fail
  clear x0 x1 y0 y1 lx ly
  generalize hgs_ : w6.heap.size = gs_ at *
  generalize (w6.alloc (Obj.cells #[.int .u64 (s_l : Int), .int .u64 (s_h : Int)] 33)) = V0 at *
  refine Calls.mono (H4.out _ m6.out.hb) ?_
  rintro e w7 ⟨rfl, hb⟩
  have Ns_ : Hid ((w7.alloc (Obj.cells #[.int .u64 (d_l : Int), .int .u64 (d_h : Int)] 33)).heap[gs_]? = _) := blk_old (blk_below Ns_.out hb) _
  have Nd_ : Hid ((w7.alloc (Obj.cells #[.int .u64 (d_l : Int), .int .u64 (d_h : Int)] 33)).heap[w7.heap.size]? = _) := blk_new w7 _
  have m7 : Hid (KSt w (w7.alloc (Obj.cells #[.int .u64 (d_l : Int), .int .u64 (d_h : Int)] 33)) gx gy gz pl ph ql qh zl zh) := (m6.out.below hb).alloc _
  obtain ⟨x0, x1, -, -⟩ := blk2 (m6.out.below hb).kx
  obtain ⟨y0, y1, -, -⟩ := blk2 (m6.out.below hb).ky
  have lx := lt_of_row (m6.out.below hb).kx
  have ly := lt_of_row (m6.out.below hb).ky
  clear hb H4 m6
  go_wp2_with fail
  clear x0 x1 y0 y1 lx ly
  generalize hgd_ : w7.heap.size = gd_ at *
  generalize (w7.alloc (Obj.cells #[.int .u64 (d_l : Int), .int .u64 (d_h : Int)] 33)) = V1 at *
  refine Calls.mono (H5.out _ m7.out.hb) ?_
  rintro e w8 ⟨rfl, hb⟩
  have Ns_prev := Ns_
  have Ns_ : Hid ((w8.alloc (Obj.cells #[.int .u64 (m_l : Int), .int .u64 (m_h : Int)] 33)).heap[gs_]? = _) := blk_old (blk_below Ns_.out hb) _
  have Nd_ : Hid ((w8.alloc (Obj.cells #[.int .u64 (m_l : Int), .int .u64 (m_h : Int)] 33)).heap[gd_]? = _) := blk_old (blk_below Nd_.out hb) _
  have Nm_ : Hid ((w8.alloc (Obj.cells #[.int .u64 (m_l : Int), .int .u64 (m_h : Int)] 33)).heap[w8.heap.size]? = _) := blk_new w8 _
  have m8 : Hid (KSt w (w8.alloc (Obj.cells #[.int .u64 (m_l : Int), .int .u64 (m_h : Int)] 33)) gx gy gz pl ph ql qh zl zh) := (m7.out.below hb).alloc _
  obtain ⟨x0, x1, -, -⟩ := blk2 (blk_below Ns_prev.out hb)
  have lx := lt_of_row (blk_below Ns_prev.out hb)
  clear hb H5 m7 Ns_prev
  go_wp2_with fail
  clear x0 x1 lx
  generalize hgm_ : w8.heap.size = gm_ at *
  generalize (w8.alloc (Obj.cells #[.int .u64 (m_l : Int), .int .u64 (m_h : Int)] 33)) = V2 at *
  refine Calls.mono (HS.out _) ?_
  rintro e w9 ⟨rfl, hb⟩
  have m9 : Hid (KSt w w9 gx gy gz pl ph ql qh zl zh) := m8.out.below hb
  have Nd_ : Hid (w9.heap[gd_]? = _) := blk_below Nd_.out hb
  have Nm_ : Hid (w9.heap[gm_]? = _) := blk_below Nm_.out hb
  obtain ⟨x0, x1, -, -⟩ := blk2 Nd_.out
  clear hb HS m8
  go_wp2_with fail
  clear x0 x1
  refine Calls.mono (HD.out _) ?_
  rintro e w10 ⟨rfl, hb⟩
  have m10 : Hid (KSt w w10 gx gy gz pl ph ql qh zl zh) := m9.out.below hb
  have Nm_ : Hid (w10.heap[gm_]? = _) := blk_below Nm_.out hb
  obtain ⟨x0, x1, -, -⟩ := blk2 Nm_.out
  clear hb HD m9
  go_wp2_with fail
  clear x0 x1
  refine Calls.mono (HM.out _) ?_
  rintro e w11 ⟨rfl, hb⟩
  have m11 : Hid (KSt w w11 gx gy gz pl ph ql qh zl zh) := m10.out.below hb
  obtain ⟨x0, x1, -, -⟩ := blk2 m11.out.kz
  obtain ⟨y0, y1, -, -⟩ := blk2 m11.out.ky
  have hz := HZ0.out
  clear hb HM m10
  subst hz
  go_wp2_with fail
  refine Calls.mono (H6.out _ m11.out.hb) ?_
  rintro e w12 ⟨rfl, hb⟩
  have hX : Below w.heap.size w (w12.alloc (Obj.cells #[.int .u64 (r_l : Int), .int .u64 (r_h : Int)] 33)) := (m11.out.hb.trans (hb.mono m11.out.hb.size)).alloc (Nat.le_trans m11.out.hb.size hb.size) _
  clear hb x0 x1 y0 y1
  go_wp2
  go_ret
  exact ⟨rfl, hX⟩

set_option maxHeartbeats 4000000 in
set_option maxRecDepth 100000 in
theorem knows_div (k oa ob : Int) (s : ByteArray) (xl xh yl yh : Int) (po : Option Addr) (pl_ pc : Nat) (a b : Int) (pl ph ql qh zl zh s_l s_h d_l d_h m_l m_h r_l r_h : Nat) (w : World)
    (a1 : a.natAbs ≤ 536870912) (b1 : b.natAbs ≤ 536870912) (ab1 : -9223372036854775808 ≤ a * b) (ab2 : a * b < 9223372036854775808) (hb0 : b ≠ 0)
    (ha : ∀ W, Calls Tryz.prog 19 #[.int .i64 oa, .int .i64 30] W fun e w' => e = .returned (.int .i64 a) ∧ Below W.heap.size W w')
    (hb : ∀ W, Calls Tryz.prog 19 #[.int .i64 ob, .int .i64 30] W fun e w' => e = .returned (.int .i64 b) ∧ Below W.heap.size W w')
    (hx : ∀ W, Below w.heap.size w W → Calls Tryz.prog 20 #[.int .i64 a] W fun e w' => e = .returned (.tuple #[.agg #[.int .u64 (pl : Int), .int .u64 (ph : Int)], .bool true]) ∧ Below W.heap.size W w')
    (hy : ∀ W, Below w.heap.size w W → Calls Tryz.prog 20 #[.int .i64 b] W fun e w' => e = .returned (.tuple #[.agg #[.int .u64 (ql : Int), .int .u64 (qh : Int)], .bool true]) ∧ Below W.heap.size W w')
    (hz : ∀ W, Below w.heap.size w W → Calls Tryz.prog 20 #[.int .i64 (a * b)] W fun e w' => e = .returned (.tuple #[.agg #[.int .u64 (zl : Int), .int .u64 (zh : Int)], .bool true]) ∧ Below W.heap.size W w')
    (h3 : ∀ W, Below w.heap.size w W → Calls Tryz.prog 21 #[.int .i64 3, .agg #[.int .u64 (pl : Int), .int .u64 (ph : Int)], .agg #[.int .u64 (ql : Int), .int .u64 (qh : Int)]] W fun e w' => e = .returned (.tuple #[.agg #[.int .u64 (s_l : Int), .int .u64 (s_h : Int)], .int .i64 0, .string ⟨#[]⟩]) ∧ Below W.heap.size W w')
    (h4 : ∀ W, Below w.heap.size w W → Calls Tryz.prog 21 #[.int .i64 4, .agg #[.int .u64 (pl : Int), .int .u64 (ph : Int)], .agg #[.int .u64 (ql : Int), .int .u64 (qh : Int)]] W fun e w' => e = .returned (.tuple #[.agg #[.int .u64 (d_l : Int), .int .u64 (d_h : Int)], .int .i64 0, .string ⟨#[]⟩]) ∧ Below W.heap.size W w')
    (h5 : ∀ W, Below w.heap.size w W → Calls Tryz.prog 21 #[.int .i64 5, .agg #[.int .u64 (pl : Int), .int .u64 (ph : Int)], .agg #[.int .u64 (ql : Int), .int .u64 (qh : Int)]] W fun e w' => e = .returned (.tuple #[.agg #[.int .u64 (m_l : Int), .int .u64 (m_h : Int)], .int .i64 0, .string ⟨#[]⟩]) ∧ Below W.heap.size W w')
    (hs : ∀ W, Calls Tryz.prog 22 #[.agg #[.int .u64 (s_l : Int), .int .u64 (s_h : Int)], .int .i64 (a + b)] W fun e w' => e = .returned (.bool true) ∧ Below W.heap.size W w')
    (hd : ∀ W, Calls Tryz.prog 22 #[.agg #[.int .u64 (d_l : Int), .int .u64 (d_h : Int)], .int .i64 (a - b)] W fun e w' => e = .returned (.bool true) ∧ Below W.heap.size W w')
    (hm : ∀ W, Calls Tryz.prog 22 #[.agg #[.int .u64 (m_l : Int), .int .u64 (m_h : Int)], .int .i64 (a * b)] W fun e w' => e = .returned (.bool true) ∧ Below W.heap.size W w')
    (h6 : ∀ W, Below w.heap.size w W → Calls Tryz.prog 21 #[.int .i64 6, .agg #[.int .u64 (zl : Int), .int .u64 (zh : Int)], .agg #[.int .u64 (ql : Int), .int .u64 (qh : Int)]] W fun e w' => e = .returned (.tuple #[.agg #[.int .u64 (r_l : Int), .int .u64 (r_h : Int)], .int .i64 0, .string ⟨#[]⟩]) ∧ Below W.heap.size W w')
    (hq : ∀ W, Calls Tryz.prog 22 #[.agg #[.int .u64 (r_l : Int), .int .u64 (r_h : Int)], .int .i64 a] W fun e w' => e = .returned (.bool true) ∧ Below W.heap.size W w') :
    Calls Tryz.prog 15 #[.agg #[Value.int IntKind.i64 k, Value.int IntKind.i64 oa, Value.int IntKind.i64 ob, Value.string s, Value.int IntKind.u64 xl, Value.int IntKind.u64 xh, Value.int IntKind.u64 yl, Value.int IntKind.u64 yh, Value.slice po pl_ pc]] w fun e w' => e = .returned (.bool true) ∧ Below w.heap.size w w' := by
  have HA : Hid (∀ W, Calls Tryz.prog 19 #[.int .i64 oa, .int .i64 30] W fun e w' => e = .returned (.int .i64 a) ∧ Below W.heap.size W w') := ha
  have HB : Hid (∀ W, Calls Tryz.prog 19 #[.int .i64 ob, .int .i64 30] W fun e w' => e = .returned (.int .i64 b) ∧ Below W.heap.size W w') := hb
  have HX : Hid (∀ W, Below w.heap.size w W → Calls Tryz.prog 20 #[.int .i64 a] W fun e w' => e = .returned (.tuple #[.agg #[.int .u64 (pl : Int), .int .u64 (ph : Int)], .bool true]) ∧ Below W.heap.size W w') := hx
  have HY : Hid (∀ W, Below w.heap.size w W → Calls Tryz.prog 20 #[.int .i64 b] W fun e w' => e = .returned (.tuple #[.agg #[.int .u64 (ql : Int), .int .u64 (qh : Int)], .bool true]) ∧ Below W.heap.size W w') := hy
  have HZ : Hid (∀ W, Below w.heap.size w W → Calls Tryz.prog 20 #[.int .i64 (a * b)] W fun e w' => e = .returned (.tuple #[.agg #[.int .u64 (zl : Int), .int .u64 (zh : Int)], .bool true]) ∧ Below W.heap.size W w') := hz
  have H3 : Hid (∀ W, Below w.heap.size w W → Calls Tryz.prog 21 #[.int .i64 3, .agg #[.int .u64 (pl : Int), .int .u64 (ph : Int)], .agg #[.int .u64 (ql : Int), .int .u64 (qh : Int)]] W fun e w' => e = .returned (.tuple #[.agg #[.int .u64 (s_l : Int), .int .u64 (s_h : Int)], .int .i64 0, .string ⟨#[]⟩]) ∧ Below W.heap.size W w') := h3
  have H4 : Hid (∀ W, Below w.heap.size w W → Calls Tryz.prog 21 #[.int .i64 4, .agg #[.int .u64 (pl : Int), .int .u64 (ph : Int)], .agg #[.int .u64 (ql : Int), .int .u64 (qh : Int)]] W fun e w' => e = .returned (.tuple #[.agg #[.int .u64 (d_l : Int), .int .u64 (d_h : Int)], .int .i64 0, .string ⟨#[]⟩]) ∧ Below W.heap.size W w') := h4
  have H5 : Hid (∀ W, Below w.heap.size w W → Calls Tryz.prog 21 #[.int .i64 5, .agg #[.int .u64 (pl : Int), .int .u64 (ph : Int)], .agg #[.int .u64 (ql : Int), .int .u64 (qh : Int)]] W fun e w' => e = .returned (.tuple #[.agg #[.int .u64 (m_l : Int), .int .u64 (m_h : Int)], .int .i64 0, .string ⟨#[]⟩]) ∧ Below W.heap.size W w') := h5
  have HS : Hid (∀ W, Calls Tryz.prog 22 #[.agg #[.int .u64 (s_l : Int), .int .u64 (s_h : Int)], .int .i64 (a + b)] W fun e w' => e = .returned (.bool true) ∧ Below W.heap.size W w') := hs
  have HD : Hid (∀ W, Calls Tryz.prog 22 #[.agg #[.int .u64 (d_l : Int), .int .u64 (d_h : Int)], .int .i64 (a - b)] W fun e w' => e = .returned (.bool true) ∧ Below W.heap.size W w') := hd
  have HM : Hid (∀ W, Calls Tryz.prog 22 #[.agg #[.int .u64 (m_l : Int), .int .u64 (m_h : Int)], .int .i64 (a * b)] W fun e w' => e = .returned (.bool true) ∧ Below W.heap.size W w') := hm
  have H6 : Hid (∀ W, Below w.heap.size w W → Calls Tryz.prog 21 #[.int .i64 6, .agg #[.int .u64 (zl : Int), .int .u64 (zh : Int)], .agg #[.int .u64 (ql : Int), .int .u64 (qh : Int)]] W fun e w' => e = .returned (.tuple #[.agg #[.int .u64 (r_l : Int), .int .u64 (r_h : Int)], .int .i64 0, .string ⟨#[]⟩]) ∧ Below W.heap.size W w') := h6
  have HQ : Hid (∀ W, Calls Tryz.prog 22 #[.agg #[.int .u64 (r_l : Int), .int .u64 (r_h : Int)], .int .i64 a] W fun e w' => e = .returned (.bool true) ∧ Below W.heap.size W w') := hq
  have HZ0 : Hid (b ≠ 0) := hb0
  clear hb0 ha hb hx hy hz h3 h4 h5 hs hd hm h6 hq
  have a2 : -536870912 ≤ a ∧ a ≤ 536870912 := by omega
  have b2 : -536870912 ≤ b ∧ b ≤ 536870912 := by omega
  clear a1 b1
  obtain ⟨a3, a4⟩ := a2
  obtain ⟨b3, b4⟩ := b2
  go_enter Tryz.func15, Tryz.ntmps15
  go_wp2_with fail
  have B0 := blk_new w (Obj.cells #[Value.int IntKind.i64 k, Value.int IntKind.i64 oa, Value.int IntKind.i64 ob, Value.string s, Value.int IntKind.u64 xl, Value.int IntKind.u64 xh, Value.int IntKind.u64 yl, Value.int IntKind.u64 yh, Value.slice po pl_ pc] 31)
  have hW : Below w.heap.size w (w.alloc (Obj.cells #[Value.int IntKind.i64 k, Value.int IntKind.i64 oa, Value.int IntKind.i64 ob, Value.string s, Value.int IntKind.u64 xl, Value.int IntKind.u64 xh, Value.int IntKind.u64 yl, Value.int IntKind.u64 yh, Value.slice po pl_ pc] 31)) := (Below.refl _ _).alloc (Nat.le_refl _) _
  generalize (w.alloc (Obj.cells #[Value.int IntKind.i64 k, Value.int IntKind.i64 oa, Value.int IntKind.i64 ob, Value.string s, Value.int IntKind.u64 xl, Value.int IntKind.u64 xh, Value.int IntKind.u64 yl, Value.int IntKind.u64 yh, Value.slice po pl_ pc] 31)) = W1 at *
  refine Calls.mono (HA.out _) ?_
  rintro e w1 ⟨rfl, hb1⟩
  have HW1 : Hid (Below w.heap.size w w1) := hW.trans (hb1.mono hW.size)
  have B1 := blk_below B0 hb1
  obtain ⟨-, -, k2, -, -, -, -, -, -⟩ := blk9 B1
  clear B0 B1 hW hb1 HA
  go_wp2_with fail
  refine Calls.mono (HB.out _) ?_
  rintro e w2 ⟨rfl, hb2⟩
  have HW2 : Hid (Below w.heap.size w w2) := HW1.out.trans (hb2.mono HW1.out.size)
  clear hb2 HW1 k2 HB
  go_wp2_with fail
  refine Calls.mono (HX.out _ HW2.out) ?_
  rintro e w3 ⟨rfl, hb3⟩
  have HW3 : Hid (Below w.heap.size w (w3.alloc (Obj.cells #[.int .u64 (pl : Int), .int .u64 (ph : Int)] 33))) := (HW2.out.trans (hb3.mono HW2.out.size)).alloc (Nat.le_trans HW2.out.size hb3.size) _
  have BX : Hid ((w3.alloc (Obj.cells #[.int .u64 (pl : Int), .int .u64 (ph : Int)] 33)).heap[w3.heap.size]? = _) := blk_new w3 _
  clear hb3 HW2 HX
  go_wp2_with fail
  generalize hgx : w3.heap.size = gx at *
  generalize (w3.alloc (Obj.cells #[.int .u64 (pl : Int), .int .u64 (ph : Int)] 33)) = W3 at *
  refine Calls.mono (HY.out _ HW3.out) ?_
  rintro e w4 ⟨rfl, hb4⟩
  have HW4 : Hid (Below w.heap.size w (w4.alloc (Obj.cells #[.int .u64 (ql : Int), .int .u64 (qh : Int)] 33))) := (HW3.out.trans (hb4.mono HW3.out.size)).alloc (Nat.le_trans HW3.out.size hb4.size) _
  have BX4 : Hid ((w4.alloc (Obj.cells #[.int .u64 (ql : Int), .int .u64 (qh : Int)] 33)).heap[gx]? = _) := blk_old (blk_below BX.out hb4) _
  have BY4 : Hid ((w4.alloc (Obj.cells #[.int .u64 (ql : Int), .int .u64 (qh : Int)] 33)).heap[w4.heap.size]? = _) := blk_new w4 _
  clear hb4 HW3 HY BX
  go_wp2_with fail
  generalize hgy : w4.heap.size = gy at *
  generalize (w4.alloc (Obj.cells #[.int .u64 (ql : Int), .int .u64 (qh : Int)] 33)) = W4 at *
  refine Calls.mono (HZ.out _ HW4.out) ?_
  rintro e w5 ⟨rfl, hb5⟩
  have m5 : Hid (KSt w (w5.alloc (Obj.cells #[.int .u64 (zl : Int), .int .u64 (zh : Int)] 33)) gx gy w5.heap.size pl ph ql qh zl zh) := ⟨blk_old (blk_below BX4.out hb5) _, blk_old (blk_below BY4.out hb5) _, blk_new w5 _, (HW4.out.trans (hb5.mono HW4.out.size)).alloc (Nat.le_trans HW4.out.size hb5.size) _⟩
  obtain ⟨x0, x1, -, -⟩ := blk2 (blk_below BX4.out hb5)
  obtain ⟨y0, y1, -, -⟩ := blk2 (blk_below BY4.out hb5)
  have lx := lt_of_row (blk_below BX4.out hb5)
  have ly := lt_of_row (blk_below BY4.out hb5)
  clear hb5 HW4 HZ BX4 BY4
  go_wp2_with fail
  clear x0 x1 y0 y1 lx ly
  generalize hgz : w5.heap.size = gz at *
  generalize (w5.alloc (Obj.cells #[.int .u64 (zl : Int), .int .u64 (zh : Int)] 33)) = W5 at *
  refine Calls.mono (H3.out _ m5.out.hb) ?_
  rintro e w6 ⟨rfl, hb⟩
  have Ns_ : Hid ((w6.alloc (Obj.cells #[.int .u64 (s_l : Int), .int .u64 (s_h : Int)] 33)).heap[w6.heap.size]? = _) := blk_new w6 _
  have m6 : Hid (KSt w (w6.alloc (Obj.cells #[.int .u64 (s_l : Int), .int .u64 (s_h : Int)] 33)) gx gy gz pl ph ql qh zl zh) := (m5.out.below hb).alloc _
  obtain ⟨x0, x1, -, -⟩ := blk2 (m5.out.below hb).kx
  obtain ⟨y0, y1, -, -⟩ := blk2 (m5.out.below hb).ky
  have lx := lt_of_row (m5.out.below hb).kx
  have ly := lt_of_row (m5.out.below hb).ky
  clear hb H3 m5
  go_wp2_with fail
  clear x0 x1 y0 y1 lx ly
  generalize hgs_ : w6.heap.size = gs_ at *
  generalize (w6.alloc (Obj.cells #[.int .u64 (s_l : Int), .int .u64 (s_h : Int)] 33)) = V0 at *
  refine Calls.mono (H4.out _ m6.out.hb) ?_
  rintro e w7 ⟨rfl, hb⟩
  have Ns_ : Hid ((w7.alloc (Obj.cells #[.int .u64 (d_l : Int), .int .u64 (d_h : Int)] 33)).heap[gs_]? = _) := blk_old (blk_below Ns_.out hb) _
  have Nd_ : Hid ((w7.alloc (Obj.cells #[.int .u64 (d_l : Int), .int .u64 (d_h : Int)] 33)).heap[w7.heap.size]? = _) := blk_new w7 _
  have m7 : Hid (KSt w (w7.alloc (Obj.cells #[.int .u64 (d_l : Int), .int .u64 (d_h : Int)] 33)) gx gy gz pl ph ql qh zl zh) := (m6.out.below hb).alloc _
  obtain ⟨x0, x1, -, -⟩ := blk2 (m6.out.below hb).kx
  obtain ⟨y0, y1, -, -⟩ := blk2 (m6.out.below hb).ky
  have lx := lt_of_row (m6.out.below hb).kx
  have ly := lt_of_row (m6.out.below hb).ky
  clear hb H4 m6
  go_wp2_with fail
  clear x0 x1 y0 y1 lx ly
  generalize hgd_ : w7.heap.size = gd_ at *
  generalize (w7.alloc (Obj.cells #[.int .u64 (d_l : Int), .int .u64 (d_h : Int)] 33)) = V1 at *
  refine Calls.mono (H5.out _ m7.out.hb) ?_
  rintro e w8 ⟨rfl, hb⟩
  have Ns_prev := Ns_
  have Ns_ : Hid ((w8.alloc (Obj.cells #[.int .u64 (m_l : Int), .int .u64 (m_h : Int)] 33)).heap[gs_]? = _) := blk_old (blk_below Ns_.out hb) _
  have Nd_ : Hid ((w8.alloc (Obj.cells #[.int .u64 (m_l : Int), .int .u64 (m_h : Int)] 33)).heap[gd_]? = _) := blk_old (blk_below Nd_.out hb) _
  have Nm_ : Hid ((w8.alloc (Obj.cells #[.int .u64 (m_l : Int), .int .u64 (m_h : Int)] 33)).heap[w8.heap.size]? = _) := blk_new w8 _
  have m8 : Hid (KSt w (w8.alloc (Obj.cells #[.int .u64 (m_l : Int), .int .u64 (m_h : Int)] 33)) gx gy gz pl ph ql qh zl zh) := (m7.out.below hb).alloc _
  obtain ⟨x0, x1, -, -⟩ := blk2 (blk_below Ns_prev.out hb)
  have lx := lt_of_row (blk_below Ns_prev.out hb)
  clear hb H5 m7 Ns_prev
  go_wp2_with fail
  clear x0 x1 lx
  generalize hgm_ : w8.heap.size = gm_ at *
  generalize (w8.alloc (Obj.cells #[.int .u64 (m_l : Int), .int .u64 (m_h : Int)] 33)) = V2 at *
  refine Calls.mono (HS.out _) ?_
  rintro e w9 ⟨rfl, hb⟩
  have m9 : Hid (KSt w w9 gx gy gz pl ph ql qh zl zh) := m8.out.below hb
  have Nd_ : Hid (w9.heap[gd_]? = _) := blk_below Nd_.out hb
  have Nm_ : Hid (w9.heap[gm_]? = _) := blk_below Nm_.out hb
  obtain ⟨x0, x1, -, -⟩ := blk2 Nd_.out
  clear hb HS m8
  go_wp2_with fail
  clear x0 x1
  refine Calls.mono (HD.out _) ?_
  rintro e w10 ⟨rfl, hb⟩
  have m10 : Hid (KSt w w10 gx gy gz pl ph ql qh zl zh) := m9.out.below hb
  have Nm_ : Hid (w10.heap[gm_]? = _) := blk_below Nm_.out hb
  obtain ⟨x0, x1, -, -⟩ := blk2 Nm_.out
  clear hb HD m9
  go_wp2_with fail
  clear x0 x1
  refine Calls.mono (HM.out _) ?_
  rintro e w11 ⟨rfl, hb⟩
  have m11 : Hid (KSt w w11 gx gy gz pl ph ql qh zl zh) := m10.out.below hb
  obtain ⟨x0, x1, -, -⟩ := blk2 m11.out.kz
  obtain ⟨y0, y1, -, -⟩ := blk2 m11.out.ky
  have hz := HZ0.out
  clear hb HM m10
  go_wp2_with fail
  refine Calls.mono (H6.out _ m11.out.hb) ?_
  rintro e w12 ⟨rfl, hb⟩
  have hX : Below w.heap.size w (w12.alloc (Obj.cells #[.int .u64 (r_l : Int), .int .u64 (r_h : Int)] 33)) := (m11.out.hb.trans (hb.mono m11.out.hb.size)).alloc (Nat.le_trans m11.out.hb.size hb.size) _
  clear hb x0 x1 y0 y1
  go_wp2_with fail
  refine Calls.mono (HQ.out _) ?_
  rintro e w13 ⟨rfl, hb⟩
  have hY : Below w.heap.size w w13 := hX.trans (hb.mono hX.size)
  clear hb hX
  go_wp2
  go_ret
  exact ⟨rfl, hY⟩

end Go.Proofs.YtonhpkigoplmaaaGreatDoor
namespace Go.Proofs.YtonhpkigoplmaaaGreatDoor
open Go.RowKit

theorem op_whole (A : Nat → Addr) (k : Int) {l h l' h' : Nat} (i : Iv l h) (j : Iv l' h') (r : Nat × Nat × Nat × ByteArray) (hr : r = refOpN k (plT l) (plT h) (plT l') (plT h')) (W : World) (hS : Sents A W) :
    Calls Tryz.prog 21 #[.int .i64 k, .agg #[.int .u64 (l : Int), .int .u64 (h : Int)], .agg #[.int .u64 (l' : Int), .int .u64 (h' : Int)]] W fun e w' => e = .returned (.tuple #[.agg #[.int .u64 (r.1 : Int), .int .u64 (r.2.1 : Int)], .int .i64 (r.2.2.1 : Int), .string r.2.2.2]) ∧ Below W.heap.size W w' :=
  plainOp_ref A k l h l' h' W hS i.lt1 i.lt2 j.lt1 j.lt2 l h l' h' (by rw [make_iv i]) (by rw [make_iv i]) (by rw [make_iv j]) (by rw [make_iv j]) r hr

theorem holds_whole {n : Int} (h : n.natAbs ≤ 1152921504606846976) (W : World) :
    Calls Tryz.prog 22 #[.agg #[.int .u64 (fl n : Int), .int .u64 (fh n : Int)], .int .i64 n] W fun e w' => e = .returned (.bool true) ∧ Below W.heap.size W w' :=
  holds_law (fl n) (fh n) n W (iv_whole h) (by omega) (by omega) (low_whole h) (high_whole h)

theorem knows_any (A : Nat → Addr) (k oa ob : Int) (s : ByteArray) (xl xh yl yh : Int) (po : Option Addr) (pl pc : Nat) (w : World) (hS : Sents A w) :
    Calls Tryz.prog 15 #[.agg #[.int .i64 k, .int .i64 oa, .int .i64 ob, .string s, .int .u64 xl, .int .u64 xh, .int .u64 yl, .int .u64 yh, .slice po pl pc]] w fun e w' => e = .returned (.bool true) ∧ Below w.heap.size w w' := by
  have ha := fun W => small_any oa W
  have hb := fun W => small_any ob W
  have a1 : (oa % 1073741824 - 536870912).natAbs ≤ 536870912 := by omega
  have b1 : (ob % 1073741824 - 536870912).natAbs ≤ 536870912 := by omega
  generalize oa % 1073741824 - 536870912 = a at *
  generalize ob % 1073741824 - 536870912 = b at *
  have hab := mul_abs (a := a) (b := b) (by omega) (by omega)
  have S : ∀ {W : World}, Below w.heap.size w W → Sents A W := fun h => hS.below h (Nat.le_refl _)
  have ia := iv_whole (n := a) (by omega)
  have ib := iv_whole (n := b) (by omega)
  have iz := iv_whole hab
  have wa := fun (W : World) (h : Below w.heap.size w W) => whole_law A a W (by omega) (S h)
  have wb := fun (W : World) (h : Below w.heap.size w W) => whole_law A b W (by omega) (S h)
  have wz := fun (W : World) (h : Below w.heap.size w W) => whole_law A (a * b) W hab (S h)
  have h3 := fun (W : World) (h : Below w.heap.size w W) => op_whole A 3 ia ib _ (add_whole (a := a) (b := b) (by omega) (by omega)).symm W (S h)
  have h4 := fun (W : World) (h : Below w.heap.size w W) => op_whole A 4 ia ib _ (sub_whole (a := a) (b := b) (by omega) (by omega)).symm W (S h)
  have h5 := fun (W : World) (h : Below w.heap.size w W) => op_whole A 5 ia ib _ (mul_whole (a := a) (b := b) (by omega) (by omega)).symm W (S h)
  have k3 := holds_whole (n := a + b) (by omega)
  have k4 := holds_whole (n := a - b) (by omega)
  have k5 := holds_whole hab
  by_cases hb0 : b = 0
  · have h6 := fun (W : World) (h : Below w.heap.size w W) => op_whole A 6 iz ib (0, 0, 4, ⟨#[47]⟩) (by rw [hb0]; exact (div_zero_whole _ _).symm) W (S h)
    exact knows_zero k oa ob s xl xh yl yh po pl pc a b _ _ _ _ _ _ _ _ _ _ _ _ 0 0 w a1 b1 (by omega) (by omega) hb0 ha hb wa wb wz h3 h4 h5 k3 k4 k5 h6
  · obtain ⟨l, h, e, iv, c1, c2⟩ := div_whole (a := a) (b := b) (by omega) (by omega) hb0
    have h6 := fun (W : World) (hW : Below w.heap.size w W) => op_whole A 6 iz ib _ e.symm W (S hW)
    have k6 := fun W => holds_law l h a W iv (by omega) (by omega) c1 c2
    exact knows_div k oa ob s xl xh yl yh po pl pc a b _ _ _ _ _ _ _ _ _ _ _ _ l h w a1 b1 (by omega) (by omega) hb0 ha hb wa wb wz h3 h4 h5 k3 k4 k5 h6 k6

set_option maxHeartbeats 1000000 in
set_option maxRecDepth 20000 in
theorem knowsAll_any (A : Nat → Addr) (z : Script) (ao : Option Addr) (n c : Nat) (w : World) (hn : n ≤ 1466015503701) (hS : Sents A w)
    (hz : n = 0 ∨ ∃ g off, ao = some ⟨g, off, none⟩ ∧ g < w.heap.size ∧ z.at w g off n) :
    Calls Tryz.prog 7 #[.slice ao n c] w fun e w' => e = .returned (.bool true) ∧ Below w.heap.size w w' := by
  have HZ : Hid (n = 0 ∨ ∃ g off, ao = some ⟨g, off, none⟩ ∧ g < w.heap.size ∧ z.at w g off n) := hz
  have HS : Hid (Sents A w) := hS
  clear hz hS
  go_enter Tryz.func7, Tryz.ntmps7
  go_wp2
  have hM0 : (n : Int) ≤ 1152921504606846976 := by omega
  generalize (1152921504606846976 : Int) = M at *
  go_loopw [3] (fun v wr => ∃ i : Nat, i ≤ n ∧ v = .int .i64 (i : Int) ∧ Below w.heap.size w wr) (fun v _ => n - (intOf v).toNat)
  case atStart => exact ⟨0, Nat.zero_le _, rfl, Below.refl _ _⟩
  case round =>
    obtain ⟨i, hi1, rfl, hbr⟩ := hrel
    by_cases hin : i < n
    · have hiM : (i : Int) < M := by omega
      obtain ⟨g, off, rfl, hg, hat⟩ := HZ.out.resolve_left (by omega)
      obtain ⟨c0, c1, c2, c3, c4, c5, c6, c7, c8⟩ := hat i hin
      rw [← hbr.cell (by exact hg)] at c0 c1 c2 c3 c4 c5 c6 c7 c8
      have HPi : Hid (Calls Tryz.prog 15 #[.agg #[.int .i64 (z.k i), .int .i64 (z.a i), .int .i64 (z.b i), .string (z.s i), .int .u64 (z.xl i : Int), .int .u64 (z.xh i : Int), .int .u64 (z.yl i : Int), .int .u64 (z.yh i : Int), .slice (z.po i) (z.pl i) (z.pc i)]] wr fun e W' => e = .returned (.bool true) ∧ Below wr.heap.size wr W') := knows_any A _ _ _ _ _ _ _ _ _ _ _ wr (HS.out.below hbr (Nat.le_refl _))
      have Hbr : Hid (Below w.heap.size w wr) := hbr
      clear hat HZ HS hg hbr
      generalize z.k i = zk at *
      generalize z.a i = za at *
      generalize z.b i = zb at *
      generalize z.s i = zs at *
      generalize z.xl i = zxl at *
      generalize z.xh i = zxh at *
      generalize z.yl i = zyl at *
      generalize z.yh i = zyh at *
      generalize z.po i = zpo at *
      generalize z.pl i = zpl at *
      generalize z.pc i = zpc at *
      go_wp2_with fail
      refine Calls.mono HPi.out ?_
      rintro e w1 ⟨rfl, hb1⟩
      have Hb1 : Hid (Below w.heap.size w w1) := Hbr.out.trans (hb1.mono Hbr.out.size)
      clear hb1 HPi Hbr c0 c1 c2 c3 c4 c5 c6 c7 c8
      go_wp2
      go_roundw
      case rel => exact ⟨i + 1, by omega, by go_num, Hb1.out⟩
      case measure => simp [intOf]; omega
    · clear HZ HS
      go_wp2
      go_ret
      exact ⟨rfl, hbr⟩
end Go.Proofs.YtonhpkigoplmaaaGreatDoor
namespace Go.Proofs.YtonhpkigoplmaaaGreatDoor
open Go.ChangeShapes Go.WideShapes Go.ChangeAt Go.RowKit

theorem knows_k_own : ownKnob Tryz.prog.godebug = none := by kernel_rfl
theorem knows_k_laidOut : laidOutB Tryz.prog = true := by kernel_rfl
theorem knows_k_bytesOp : Tryz.prog.bytesOf 31 = 96 := by kernel_rfl
theorem knows_k_readable : Tryz.prog.readableRec 22 = true := by kernel_rfl

theorem knows_door_met (os : Os) (args : Array Value) : laidMetH Tryz.prog Rows.knowsRow.laid ((World.doorLaid Tryz.prog 187 os).forCall (fun _ _ => 0) ⟨#[], args, []⟩).memory :=
  laidMetH_of_parts3 (fuel := 8) (laidMet_of_run' 8 (by kernel_rfl) (by kernel_rfl)) (by kernel_rfl) (by kernel_rfl)

theorem knows_laid {W : World} (h : laidMetH Tryz.prog Rows.knowsRow.laid W) : ∃ A, Sents A W := by
  have h' : laidMet Tryz.prog sentsL W ∧ handlesMet Tryz.prog handleL W := h
  exact sents_of_laid h'.1 h'.2

set_option maxRecDepth 100000 in
theorem knows_lifted (os : Os) (started : os.Started) (H : Type) (enc : TypeId × Value → H) :
    ReturnsInHanded {} Tryz.checked os 7 .any (fun w args => (Rows.knowsSpec.pre enc Tryz.prog Tryz.f7 [] false w args ∧ laidMetH Tryz.prog Rows.knowsRow.laid w) ∧ sizedMet enc Tryz.prog Tryz.f7 (OpenSpec.ofChange Rows.knowsSpec) false w args)
      (Rows.knowsSpec.post enc Tryz.prog Tryz.f7 false true false false) := by
  refine returnsInHanded_of_change_and (C := Tryz.checked) (X := fun w _ => laidMetH Tryz.prog Rows.knowsRow.laid w) (fun _ _ _ hh h => h.of_heap hh) knows_k_own started (by kernel_rfl) Tryz.func7
    (ChangeSpec.witness_shaped (enc := enc) (C := Tryz.checked) (os := os) (X := fun w _ => laidMetH Tryz.prog Rows.knowsRow.laid w) false (World.doorLaid Tryz.prog 187 os) #[.slice none 0 0] 8 rfl (World.shaped_of_RefB (by kernel_rfl) (by kernel_rfl)) (by kernel_rfl) (by kernel_rfl) (by kernel_rfl) (knows_door_met os _)) ?_
  intro W base args ds gs before hval0 hW _ hsz0 hL _
  have hval : ∀ (j : Nat) t v, Tryz.f7.params[j]? = some t → args[j]? = some v → Value.okWide Tryz.prog W .any base t v := hval0
  have hW' := hW
  obtain ⟨p, q, hA0, hV, rfl, hfz, hnd⟩ := hW
  have hA : DataW.TrodAll enc Tryz.prog W 0 (fun _ => true) true Tryz.f7.params.toList args.toList ds p := hA0
  have hsz : (DataW.weightsEach Tryz.prog (Tryz.f7.params.toList ++ Rows.knowsSpec.plain.varTypes Tryz.prog) (ds ++ gs)).all (· ≤ reachBytes) = true := hsz0
  rw [Tryz.params7] at hA hval hsz
  obtain ⟨v0, d0, hargs, rfl, h0⟩ := trodAll_one hA
  obtain ⟨rfl, rfl⟩ := trodVars_none hV
  obtain ⟨A, hS⟩ := knows_laid hL
  obtain rfl : args = #[v0] := by
    obtain ⟨l⟩ := args
    simpa using hargs
  have hlt : ∀ x ∈ p, x.block < W.heap.size := fun x hx => by simpa using hW'.lt x (by simpa using hx)
  have h0k := h0
  obtain ⟨fuel, hf⟩ := h0
  obtain ⟨z, ao, n, c, rfl, hz, -, hd⟩ := script_of hf (okWide_slice Tryz.underlying22 (hval 0 22 v0 rfl rfl))
  have hn : n ≤ 1466015503701 := by
    rcases hd with ⟨_, h⟩ | ⟨es, sp, rfl, hlen⟩
    · omega
    · have := sized_slice hsz (j := 0) (t := 22) (e := 31) rfl rfl Tryz.underlying22
      rw [knows_k_bytesOp] at this
      simp only [reachBytes] at this
      omega
  refine (knowsAll_any A z ao n c W hn hS hz).mono fun e W' ⟨he, hb⟩ => ?_
  subst he
  have e1 : Rows.knowsSpec.fn H ([d0] ++ []) = { results := [.lit (.bool true)], args := [d0] } := by simp [Rows.knowsSpec]
  refine ⟨_, rfl, _, _, _, [], p, [], hW', ?_, ?_, ?_, hb.frame _, fun h => by cases h⟩
  · rw [e1]; exact trodAll_mk1 (shut_bool Tryz.underlying4 true)
  · rw [e1]; exact trodAll_mk1 (Below.trod knows_k_laidOut knows_k_readable (of_decide_eq_true (by kernel_rfl)) h0k hb hlt)
  · rw [e1]; rfl

theorem knows_holds : Rows.KnowsSaid :=
  OpenClaim.holds_of_wide 7 Tryz.f7 rfl rfl rfl rfl rfl rfl rfl ⟨rfl, rfl, rfl, rfl, rfl⟩ rfl rfl rfl rfl rfl (by kernel_rfl) Tryz.func7 (by kernel_rfl)
    (of_decide_eq_true (by kernel_rfl)) (by unfold Func.isWrapper; rw [if_neg (of_decide_eq_false (by kernel_rfl))]; exact ⟨rfl, rfl⟩)
    (fun os started H enc _ => knows_lifted os started H enc)

theorem knows_card : Rows.KnowsCardSaid :=
  Claim7.holds_tied_plain_at .later [] _ _ _ _ knows_holds (fun _ h => by cases h) (by kernel_rfl) (fun _ h => by cases h) knows_row_tie rfl ⟨rfl, rfl⟩ (by kernel_rfl) rfl
    (fun f fn hf hfn => by
      obtain rfl : f = 7 := Option.some.inj ((show Tryz.prog.funcNamed "enclose/encloselaw.Knows" = some 7 by kernel_rfl).symm.trans hf) |>.symm
      obtain rfl : fn = Tryz.f7 := (Option.some.inj (Tryz.func7.symm.trans hfn)).symm
      exact ⟨by kernel_rfl, fun j t ht => by
        rw [Tryz.params7] at ht
        have h3 : t = 22 := by
          rcases j with _ | j
          · simpa using ht.symm
          · simp at ht
        subst h3
        exact (show Tryz.prog.wantsStandIn 22 = false by kernel_rfl)⟩)
    (by kernel_rfl)
#print axioms knows_card
end Go.Proofs.YtonhpkigoplmaaaGreatDoor
