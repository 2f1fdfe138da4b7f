/-
  The step Exact, and the walk of Exacts.
-/
import Derived.Test.YtonhpkigoplmaaaGreatDoorExactJ
import Derived.Test.YtonhpkigoplmaaaGreatDoorLawB
namespace Go.Proofs.YtonhpkigoplmaaaGreatDoor
open Go.RowKit

set_option maxHeartbeats 1000000 in
set_option maxRecDepth 100000 in
theorem plays_exact (A : Nat → Addr) (a b : Int) (s : ByteArray) (xl xh yl yh : Int) (po : Option Addr) (pl pc : Nat) (w : World) (h1 : -9223372036854775808 ≤ b) (h2 : b < 9223372036854775808) (hS : Sents A w) :
    Calls Tryz.prog 18 #[.agg #[.int .i64 4, .int .i64 a, .int .i64 b, .string s, .int .u64 xl, .int .u64 xh, .int .u64 yl, .int .u64 yh, .slice po pl pc]] w fun e w' => e = .returned (.bool true) ∧ Below w.heap.size w w' := by
  have H1 : Hid (-9223372036854775808 ≤ b) := h1
  have H2 : Hid (b < 9223372036854775808) := h2
  have hwb : wrap64 b = b := by unfold wrap64; omega
  clear h1 h2
  go_enter Tryz.func18, Tryz.ntmps18
  go_wp2_with fail
  have hW : Below w.heap.size w (w.alloc (Obj.cells #[Value.int IntKind.i64 4, Value.int IntKind.i64 a, Value.int IntKind.i64 b, Value.string s, Value.int IntKind.u64 xl, Value.int IntKind.u64 xh, Value.int IntKind.u64 yl, Value.int IntKind.u64 yh, Value.slice po pl pc] 31)) := (Below.refl _ _).alloc (Nat.le_refl _) _
  have HS1 : Hid (Sents A _) := hS.below hW (Nat.le_refl _)
  refine (plainExact_any A a b _ H1.out H2.out HS1.out).mono ?_
  rintro e w2 ⟨rfl, hb2⟩
  have B0 := blk_below (blk_new w (Obj.cells #[Value.int IntKind.i64 4, Value.int IntKind.i64 a, Value.int IntKind.i64 b, Value.string s, Value.int IntKind.u64 xl, Value.int IntKind.u64 xh, Value.int IntKind.u64 yl, Value.int IntKind.u64 yh, Value.slice po pl pc] 31)) hb2
  have HbB : Hid (Below w.heap.size w w2) := hW.trans (hb2.mono hW.size)
  clear hW hS HS1 hb2
  generalize hmk : refExactN a b = r
  have HMK : Hid (refExactN a b = r) := hmk
  clear hmk
  obtain ⟨rl, rh, rk⟩ := r
  dsimp only
  obtain ⟨-, k1, k2, -, -, -, -, -, -⟩ := blk9 B0
  have hz : w.heap.size < w2.heap.size := (Array.getElem?_eq_some_iff.1 B0).1
  go_wp2_with fail
  refine (refExact_any a b _ H1.out H2.out).mono ?_
  rintro e w3 ⟨rfl, hb3⟩
  rw [HMK.out]
  dsimp only
  have B3 := blk_below (blk_new w2 (Obj.cells #[Value.int IntKind.u64 rl, Value.int IntKind.u64 rh] 33)) hb3
  have HbC : Hid (Below w.heap.size w w3) := (HbB.out.alloc HbB.out.size _).trans (hb3.mono (by have := HbB.out.size; simp; omega))
  obtain ⟨j0, j1, -, -⟩ := blk2 B3
  have hz3 : w2.heap.size < w3.heap.size := (Array.getElem?_eq_some_iff.1 B3).1
  clear HbB hb3 B0 k1 k2 hz B3 H1 H2
  go_wp2_with fail
  refine (same_eq _ _ _).mono ?_
  rintro e w4 ⟨rfl, hb4⟩
  have hbD : Below w.heap.size w w4 := (HbC.out.alloc HbC.out.size _).trans (hb4.mono (by have := HbC.out.size; simp; omega))
  clear HbC hb4 j0 j1 hz3
  go_wp2
  go_ret
  exact ⟨rfl, hbD⟩

theorem exacts_any (A : Nat → Addr) (z : Script) (ao : Option Addr) (n c : Nat) (w : World) (hn : n ≤ 1466015503701) (hS : Sents A w)
    (hz : n = 0 ∨ ∃ g off, ao = some ⟨g, off, none⟩ ∧ g < w.heap.size ∧ z.at w g off n) (hx : ∀ i, i < n → -9223372036854775808 ≤ z.b i ∧ z.b i < 9223372036854775808) :
    Calls Tryz.prog 6 #[.slice ao n c] w fun e w' => e = .returned (.bool true) ∧ Below w.heap.size w w' := by
  have HU := upto_any A z ao n c 4 4 w hn hS hz (fun i hi h1 h2 W hW => by
    have hk : z.k i = 4 := by omega
    unfold Script.val
    rw [hk]
    exact plays_exact A _ _ _ _ _ _ _ _ _ _ W (hx i hi).1 (hx i hi).2 hW)
  clear hz hx hS hn
  have HU : Hid (Calls Tryz.prog 14 #[.slice ao n c, .int .i64 4, .int .i64 4] w fun e w' => e = .returned (.int .i64 (-1)) ∧ Below w.heap.size w w') := HU
  go_enter Tryz.func6, Tryz.ntmps6
  go_wp2_with fail
  refine Calls.mono HU.out ?_
  rintro e w1 ⟨rfl, hb1⟩
  clear HU
  go_wp2
  go_ret
  exact ⟨rfl, hb1⟩
end Go.Proofs.YtonhpkigoplmaaaGreatDoor
