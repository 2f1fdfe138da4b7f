/-
  enclose.aroundWhole.
-/
import Derived.Test.YtonhpkigoplmaaaGreatDoorWholeF
namespace Go.Proofs.YtonhpkigoplmaaaGreatDoor
open Go.RowKit Go.Extern Ieee
attribute [local go_sem] run_store_float

theorem ofInt_nat (n : Int) : (BitVec.ofInt 64 n).toNat = (n % 18446744073709551616).toNat := by
  rw [BitVec.toNat_ofInt]; rfl

theorem i64_low (n : Int) : bits .and .i64 n 2047 = n % 2048 := by
  show IntKind.i64.wrap ((BitVec.ofInt 64 n &&& BitVec.ofInt 64 2047).toNat : Int) = _
  rw [BitVec.toNat_and, ofInt_nat, ofInt_nat, IntKind.wrap_i64, show ((2047 : Int) % 18446744073709551616).toNat = 2047 by decide]
  have : (n % 18446744073709551616).toNat &&& 2047 = (n % 18446744073709551616).toNat % 2048 := Nat.and_two_pow_sub_one_eq_mod _ 11
  rw [this]
  omega

theorem i64_high2 (n : Int) (h1 : -9223372036854775808 ≤ n) (h2 : n < 9223372036854775808) : bits .andNot .i64 n 2047 = n - n % 2048 := by
  show IntKind.i64.wrap ((BitVec.ofInt 64 n &&& ~~~BitVec.ofInt 64 2047).toNat : Int) = _
  rw [BitVec.toNat_and, BitVec.toNat_not, ofInt_nat, ofInt_nat, IntKind.wrap_i64, show ((2047 : Int) % 18446744073709551616).toNat = 2047 by decide, show 2 ^ 64 - 1 - 2047 = 18446744073709549568 by decide, nat_hi64_11]
  omega

set_option maxHeartbeats 400000 in
theorem aroundWhole_any (n : Int) (w : World) (h1 : -9223372036854775808 ≤ n) (h2 : n < 9223372036854775808) :
    Calls Tryz.prog 128 #[.int .i64 n] w fun e w' => e = .returned (.agg #[.float .f64 (wholeLo n), .float .f64 (wholeHi n)]) ∧ Below w.heap.size w w' := by
  have HL : Hid (floatOfInt FloatKind.f64 (bits BinOp.and IntKind.i64 n 2047) = fd 0 (n % 2048)) := by show _ = _; rw [i64_low]; rfl
  have HH : Hid (floatOfInt FloatKind.f64 (bits BinOp.andNot IntKind.i64 n 2047) = fd 0 (n - n % 2048)) := by show _ = _; rw [i64_high2 n h1 h2]; rfl
  have HS : Hid (∀ w, Calls Tryz.prog 89 #[.float .f64 (fd 0 (n - n % 2048)), .float .f64 (fd 0 (n % 2048))] w fun e w' => e = .returned (.agg #[.float .f64 (wholeLo n), .float .f64 (wholeHi n)]) ∧ Below w.heap.size w w') := by
    intro w
    have p63 : (2 : Nat) ^ 63 = 9223372036854775808 := by decide
    exact sum_whole n _ _ w (by rw [p63]; omega) (by omega) (by rw [p63]; omega) (by omega) (by omega)
  clear h1 h2
  go_enter Tryz.func128, Tryz.ntmps128
  go_wp2_with fail
  rw [HL.out, HH.out]
  refine Calls.mono (HS.out _) ?_
  rintro e w1 ⟨rfl, hb1⟩
  have B0 := blk_below (blk_new w _) hb1
  obtain ⟨k0, k1, k2, k3⟩ := blk2 B0
  have hz : w.heap.size < w1.heap.size := (Array.getElem?_eq_some_iff.1 B0).1
  have HB1 : Hid (Below w.heap.size w w1) := ((Below.refl _ _).alloc (Nat.le_refl _) _).trans (hb1.mono (by simp))
  have HB0 : Hid (w1.heap[w.heap.size]? = _) := B0
  clear hb1 B0 HS HL HH
  go_wp2
  obtain ⟨c10, c11, -, -⟩ := blk2 (blk_old (blk_store2 (a := .float .f64 (wholeLo n)) (b := .float .f64 (wholeHi n)) HB0.out) (Obj.cells #[Value.float FloatKind.f64 (wholeLo n), Value.float FloatKind.f64 (wholeHi n)] 130))
  refine bodyPost_ret (v := .agg #[.float .f64 (wholeLo n), .float .f64 (wholeHi n)]) (by simp [results, Tryz.results128, go_sem, c10, c11]) rfl ?_
  exact ⟨rfl, ((HB1.out.setCell (by simp) _).setCell (by simp) _).alloc (by have := HB1.out.size; simpa using this) _⟩
end Go.Proofs.YtonhpkigoplmaaaGreatDoor
