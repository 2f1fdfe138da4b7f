/-
  ExactI, ExactJ, KnowW, HoldX, ListX, PieceV, SrchA, KeepC, SrchB.
-/
import Derived.Test.YtonhpkigoplmaaaGreatDoorF12
import Derived.Test.YtonhpkigoplmaaaGreatDoorF11
import Derived.Deep.RegionHeld3
import Derived.RangeFuncNested
import Derived.RangeFuncBound
import Derived.RangeFuncCalls
import Derived.RangeFuncLeaves
namespace Go.Proofs.YtonhpkigoplmaaaGreatDoor
open Go.RowKit Go.Extern Ieee
attribute [local go_sem] run_store_float

set_option maxHeartbeats 400000 in
theorem plainExact_0 (x : Int) (w : World) (h1 : -9223372036854775808 ≤ x) (h2 : x < 9223372036854775808) :
    Calls Tryz.prog 32 #[.int .i64 0, .int .i64 x] w fun e w' => e = .returned (.tuple #[.agg #[.int .u64 (wholeLo x : Int), .int .u64 (wholeHi x : Int)], .int .i64 0]) ∧ Below w.heap.size w w' := by
  have HY : Hid (-9223372036854775808 ≤ x ∧ x < 9223372036854775808) := by show _ ∧ _; omega
  clear h1 h2
  go_enter Tryz.func32, Tryz.ntmps32
  go_wp2_with fail
  have B0 := blk_old (blk_new w (Obj.cells #[Value.int IntKind.u64 0, Value.int IntKind.u64 0] 33)) (Obj.cells #[Value.float FloatKind.f64 0, Value.float FloatKind.f64 0] 67)
  have B1 := blk_new (w.alloc (Obj.cells #[Value.int IntKind.u64 0, Value.int IntKind.u64 0] 33)) (Obj.cells #[Value.float FloatKind.f64 0, Value.float FloatKind.f64 0] 67)
  have hW : Below w.heap.size w ((w.alloc (Obj.cells #[Value.int IntKind.u64 0, Value.int IntKind.u64 0] 33)).alloc (Obj.cells #[Value.float FloatKind.f64 0, Value.float FloatKind.f64 0] 67)) := ((Below.refl _ _).alloc (Nat.le_refl _) _).alloc (by simp) _
  simp only [World.size_alloc] at B1
  generalize ((w.alloc (Obj.cells #[Value.int IntKind.u64 0, Value.int IntKind.u64 0] 33)).alloc (Obj.cells #[Value.float FloatKind.f64 0, Value.float FloatKind.f64 0] 67)) = W2 at *
  refine (exact_int x _ HY.out.1 HY.out.2).mono ?_
  rintro e w1 ⟨rfl, hb1⟩
  have B0 := blk_below B0 hb1
  have B1 := blk_below B1 hb1
  have hb2 := hW.trans (hb1.mono hW.size)
  have hz : w.heap.size + 1 < w1.heap.size := (Array.getElem?_eq_some_iff.1 B1).1
  obtain ⟨k0, k1, k2, k3⟩ := blk2 B1
  have HB0 : Hid (w1.heap[w.heap.size]? = _) := B0
  have HB1 : Hid (w1.heap[w.heap.size + 1]? = _) := B1
  have Hb2 : Hid (Below w.heap.size w w1) := hb2
  clear hb1 hb2 B0 B1 hW
  go_wp2_with fail
  have B2 := blk_store2 (a := .float .f64 (wholeLo x)) (b := .float .f64 (wholeHi x)) HB1.out
  have B3 : ((w1.setCell ⟨w.heap.size + 1, 0, none⟩ (.float .f64 (wholeLo x))).setCell ⟨w.heap.size + 1, 1, none⟩ (.float .f64 (wholeHi x))).heap[w.heap.size]? = _ := blk_set_ne (blk_set_ne HB0.out (by omega)) (by omega)
  have hb4 : Below w.heap.size w ((w1.setCell ⟨w.heap.size + 1, 0, none⟩ (.float .f64 (wholeLo x))).setCell ⟨w.heap.size + 1, 1, none⟩ (.float .f64 (wholeHi x))) := (Hb2.out.setCell (by simp) _).setCell (by simp) _
  clear k0 k1 k2 k3 HB0 HB1 Hb2 hz
  generalize ((w1.setCell ⟨w.heap.size + 1, 0, none⟩ (.float .f64 (wholeLo x))).setCell ⟨w.heap.size + 1, 1, none⟩ (.float .f64 (wholeHi x))) = W3 at *
  refine (code_nil _).mono ?_
  rintro e w4 ⟨rfl, rfl⟩
  have hb5 : Below w4.heap.size w4 w4 := Below.refl _ _
  have B2 := blk_below B2 hb5
  have B3 := blk_below B3 hb5
  have Hb6 : Hid (Below w.heap.size w w4) := hb4.trans (hb5.mono hb4.size)
  obtain ⟨k0, k1, -, -⟩ := blk2 B2
  have HB3 : Hid (w4.heap[w.heap.size]? = _) := B3
  clear B2 B3 hb4 hb5
  go_wp2_with fail
  refine (box_any (wholeLo x) (wholeHi x) _).mono ?_
  rintro e w5 ⟨rfl, hb7⟩
  obtain ⟨k10, k11, k12, k13⟩ := blk2 (blk_below HB3.out hb7)
  have Hb8 : Hid (Below w.heap.size w w5) := Hb6.out.trans (hb7.mono Hb6.out.size)
  clear hb7 HB3 Hb6 k0 k1
  go_wp2
  refine bodyPost_ret (v := .tuple #[.agg #[.int .u64 ((wholeLo x) : Int), .int .u64 ((wholeHi x) : Int)], .int .i64 0]) (by simp [results, Tryz.results32, go_sem, k10, k11]) rfl ?_
  exact ⟨rfl, (Hb8.out.setCell (by simp) _).setCell (by simp) _⟩

set_option maxHeartbeats 400000 in
theorem plainExact_2 (x : Int) (w : World) (h1 : -9223372036854775808 ≤ x) (h2 : x < 9223372036854775808) :
    Calls Tryz.prog 32 #[.int .i64 2, .int .i64 x] w fun e w' => e = .returned (.tuple #[.agg #[.int .u64 (wholeLo x : Int), .int .u64 (wholeHi x : Int)], .int .i64 0]) ∧ Below w.heap.size w w' := by
  have HY : Hid (-9223372036854775808 ≤ x ∧ x < 9223372036854775808) := by show _ ∧ _; omega
  clear h1 h2
  go_enter Tryz.func32, Tryz.ntmps32
  go_wp2_with fail
  have B0 := blk_old (blk_new w (Obj.cells #[Value.int IntKind.u64 0, Value.int IntKind.u64 0] 33)) (Obj.cells #[Value.float FloatKind.f64 0, Value.float FloatKind.f64 0] 67)
  have B1 := blk_new (w.alloc (Obj.cells #[Value.int IntKind.u64 0, Value.int IntKind.u64 0] 33)) (Obj.cells #[Value.float FloatKind.f64 0, Value.float FloatKind.f64 0] 67)
  have hW : Below w.heap.size w ((w.alloc (Obj.cells #[Value.int IntKind.u64 0, Value.int IntKind.u64 0] 33)).alloc (Obj.cells #[Value.float FloatKind.f64 0, Value.float FloatKind.f64 0] 67)) := ((Below.refl _ _).alloc (Nat.le_refl _) _).alloc (by simp) _
  simp only [World.size_alloc] at B1
  generalize ((w.alloc (Obj.cells #[Value.int IntKind.u64 0, Value.int IntKind.u64 0] 33)).alloc (Obj.cells #[Value.float FloatKind.f64 0, Value.float FloatKind.f64 0] 67)) = W2 at *
  refine (exact_int64 x _ HY.out.1 HY.out.2).mono ?_
  rintro e w1 ⟨rfl, hb1⟩
  have B0 := blk_below B0 hb1
  have B1 := blk_below B1 hb1
  have hb2 := hW.trans (hb1.mono hW.size)
  have hz : w.heap.size + 1 < w1.heap.size := (Array.getElem?_eq_some_iff.1 B1).1
  obtain ⟨k0, k1, k2, k3⟩ := blk2 B1
  have HB0 : Hid (w1.heap[w.heap.size]? = _) := B0
  have HB1 : Hid (w1.heap[w.heap.size + 1]? = _) := B1
  have Hb2 : Hid (Below w.heap.size w w1) := hb2
  clear hb1 hb2 B0 B1 hW
  go_wp2_with fail
  have B2 := blk_store2 (a := .float .f64 (wholeLo x)) (b := .float .f64 (wholeHi x)) HB1.out
  have B3 : ((w1.setCell ⟨w.heap.size + 1, 0, none⟩ (.float .f64 (wholeLo x))).setCell ⟨w.heap.size + 1, 1, none⟩ (.float .f64 (wholeHi x))).heap[w.heap.size]? = _ := blk_set_ne (blk_set_ne HB0.out (by omega)) (by omega)
  have hb4 : Below w.heap.size w ((w1.setCell ⟨w.heap.size + 1, 0, none⟩ (.float .f64 (wholeLo x))).setCell ⟨w.heap.size + 1, 1, none⟩ (.float .f64 (wholeHi x))) := (Hb2.out.setCell (by simp) _).setCell (by simp) _
  clear k0 k1 k2 k3 HB0 HB1 Hb2 hz
  generalize ((w1.setCell ⟨w.heap.size + 1, 0, none⟩ (.float .f64 (wholeLo x))).setCell ⟨w.heap.size + 1, 1, none⟩ (.float .f64 (wholeHi x))) = W3 at *
  refine (code_nil _).mono ?_
  rintro e w4 ⟨rfl, rfl⟩
  have hb5 : Below w4.heap.size w4 w4 := Below.refl _ _
  have B2 := blk_below B2 hb5
  have B3 := blk_below B3 hb5
  have Hb6 : Hid (Below w.heap.size w w4) := hb4.trans (hb5.mono hb4.size)
  obtain ⟨k0, k1, -, -⟩ := blk2 B2
  have HB3 : Hid (w4.heap[w.heap.size]? = _) := B3
  clear B2 B3 hb4 hb5
  go_wp2_with fail
  refine (box_any (wholeLo x) (wholeHi x) _).mono ?_
  rintro e w5 ⟨rfl, hb7⟩
  obtain ⟨k10, k11, k12, k13⟩ := blk2 (blk_below HB3.out hb7)
  have Hb8 : Hid (Below w.heap.size w w5) := Hb6.out.trans (hb7.mono Hb6.out.size)
  clear hb7 HB3 Hb6 k0 k1
  go_wp2
  refine bodyPost_ret (v := .tuple #[.agg #[.int .u64 ((wholeLo x) : Int), .int .u64 ((wholeHi x) : Int)], .int .i64 0]) (by simp [results, Tryz.results32, go_sem, k10, k11]) rfl ?_
  exact ⟨rfl, (Hb8.out.setCell (by simp) _).setCell (by simp) _⟩

set_option maxHeartbeats 400000 in
theorem plainExact_1 (x : Int) (w : World) :
    Calls Tryz.prog 32 #[.int .i64 1, .int .i64 x] w fun e w' => e = .returned (.tuple #[.agg #[.int .u64 (wholeLo (wrap32 x) : Int), .int .u64 (wholeHi (wrap32 x) : Int)], .int .i64 0]) ∧ Below w.heap.size w w' := by
  have HY : Hid (-9223372036854775808 ≤ (wrap32 x) ∧ (wrap32 x) < 9223372036854775808) := by show _ ∧ _; unfold wrap32; omega
  go_enter Tryz.func32, Tryz.ntmps32
  go_wp2_with fail
  have B0 := blk_old (blk_new w (Obj.cells #[Value.int IntKind.u64 0, Value.int IntKind.u64 0] 33)) (Obj.cells #[Value.float FloatKind.f64 0, Value.float FloatKind.f64 0] 67)
  have B1 := blk_new (w.alloc (Obj.cells #[Value.int IntKind.u64 0, Value.int IntKind.u64 0] 33)) (Obj.cells #[Value.float FloatKind.f64 0, Value.float FloatKind.f64 0] 67)
  have hW : Below w.heap.size w ((w.alloc (Obj.cells #[Value.int IntKind.u64 0, Value.int IntKind.u64 0] 33)).alloc (Obj.cells #[Value.float FloatKind.f64 0, Value.float FloatKind.f64 0] 67)) := ((Below.refl _ _).alloc (Nat.le_refl _) _).alloc (by simp) _
  simp only [World.size_alloc] at B1
  generalize ((w.alloc (Obj.cells #[Value.int IntKind.u64 0, Value.int IntKind.u64 0] 33)).alloc (Obj.cells #[Value.float FloatKind.f64 0, Value.float FloatKind.f64 0] 67)) = W2 at *
  refine (exact_int32 (wrap32 x) _ HY.out.1 HY.out.2).mono ?_
  rintro e w1 ⟨rfl, hb1⟩
  have B0 := blk_below B0 hb1
  have B1 := blk_below B1 hb1
  have hb2 := hW.trans (hb1.mono hW.size)
  have hz : w.heap.size + 1 < w1.heap.size := (Array.getElem?_eq_some_iff.1 B1).1
  obtain ⟨k0, k1, k2, k3⟩ := blk2 B1
  have HB0 : Hid (w1.heap[w.heap.size]? = _) := B0
  have HB1 : Hid (w1.heap[w.heap.size + 1]? = _) := B1
  have Hb2 : Hid (Below w.heap.size w w1) := hb2
  clear hb1 hb2 B0 B1 hW
  go_wp2_with fail
  have B2 := blk_store2 (a := .float .f64 (wholeLo (wrap32 x))) (b := .float .f64 (wholeHi (wrap32 x))) HB1.out
  have B3 : ((w1.setCell ⟨w.heap.size + 1, 0, none⟩ (.float .f64 (wholeLo (wrap32 x)))).setCell ⟨w.heap.size + 1, 1, none⟩ (.float .f64 (wholeHi (wrap32 x)))).heap[w.heap.size]? = _ := blk_set_ne (blk_set_ne HB0.out (by omega)) (by omega)
  have hb4 : Below w.heap.size w ((w1.setCell ⟨w.heap.size + 1, 0, none⟩ (.float .f64 (wholeLo (wrap32 x)))).setCell ⟨w.heap.size + 1, 1, none⟩ (.float .f64 (wholeHi (wrap32 x)))) := (Hb2.out.setCell (by simp) _).setCell (by simp) _
  clear k0 k1 k2 k3 HB0 HB1 Hb2 hz
  generalize ((w1.setCell ⟨w.heap.size + 1, 0, none⟩ (.float .f64 (wholeLo (wrap32 x)))).setCell ⟨w.heap.size + 1, 1, none⟩ (.float .f64 (wholeHi (wrap32 x)))) = W3 at *
  refine (code_nil _).mono ?_
  rintro e w4 ⟨rfl, rfl⟩
  have hb5 : Below w4.heap.size w4 w4 := Below.refl _ _
  have B2 := blk_below B2 hb5
  have B3 := blk_below B3 hb5
  have Hb6 : Hid (Below w.heap.size w w4) := hb4.trans (hb5.mono hb4.size)
  obtain ⟨k0, k1, -, -⟩ := blk2 B2
  have HB3 : Hid (w4.heap[w.heap.size]? = _) := B3
  clear B2 B3 hb4 hb5
  go_wp2_with fail
  refine (box_any (wholeLo (wrap32 x)) (wholeHi (wrap32 x)) _).mono ?_
  rintro e w5 ⟨rfl, hb7⟩
  obtain ⟨k10, k11, k12, k13⟩ := blk2 (blk_below HB3.out hb7)
  have Hb8 : Hid (Below w.heap.size w w5) := Hb6.out.trans (hb7.mono Hb6.out.size)
  clear hb7 HB3 Hb6 k0 k1
  go_wp2
  refine bodyPost_ret (v := .tuple #[.agg #[.int .u64 ((wholeLo (wrap32 x)) : Int), .int .u64 ((wholeHi (wrap32 x)) : Int)], .int .i64 0]) (by simp [results, Tryz.results32, go_sem, k10, k11]) rfl ?_
  exact ⟨rfl, (Hb8.out.setCell (by simp) _).setCell (by simp) _⟩

set_option maxHeartbeats 400000 in
theorem plainExact_4 (x : Int) (w : World) :
    Calls Tryz.prog 32 #[.int .i64 4, .int .i64 x] w fun e w' => e = .returned (.tuple #[.agg #[.int .u64 (wholeLo (wrap32 x) : Int), .int .u64 (wholeHi (wrap32 x) : Int)], .int .i64 0]) ∧ Below w.heap.size w w' := by
  have HY : Hid (-9223372036854775808 ≤ (wrap32 x) ∧ (wrap32 x) < 9223372036854775808) := by show _ ∧ _; unfold wrap32; omega
  go_enter Tryz.func32, Tryz.ntmps32
  go_wp2_with fail
  have B0 := blk_old (blk_new w (Obj.cells #[Value.int IntKind.u64 0, Value.int IntKind.u64 0] 33)) (Obj.cells #[Value.float FloatKind.f64 0, Value.float FloatKind.f64 0] 67)
  have B1 := blk_new (w.alloc (Obj.cells #[Value.int IntKind.u64 0, Value.int IntKind.u64 0] 33)) (Obj.cells #[Value.float FloatKind.f64 0, Value.float FloatKind.f64 0] 67)
  have hW : Below w.heap.size w ((w.alloc (Obj.cells #[Value.int IntKind.u64 0, Value.int IntKind.u64 0] 33)).alloc (Obj.cells #[Value.float FloatKind.f64 0, Value.float FloatKind.f64 0] 67)) := ((Below.refl _ _).alloc (Nat.le_refl _) _).alloc (by simp) _
  simp only [World.size_alloc] at B1
  generalize ((w.alloc (Obj.cells #[Value.int IntKind.u64 0, Value.int IntKind.u64 0] 33)).alloc (Obj.cells #[Value.float FloatKind.f64 0, Value.float FloatKind.f64 0] 67)) = W2 at *
  refine (exact_small (wrap32 x) _ HY.out.1 HY.out.2).mono ?_
  rintro e w1 ⟨rfl, hb1⟩
  have B0 := blk_below B0 hb1
  have B1 := blk_below B1 hb1
  have hb2 := hW.trans (hb1.mono hW.size)
  have hz : w.heap.size + 1 < w1.heap.size := (Array.getElem?_eq_some_iff.1 B1).1
  obtain ⟨k0, k1, k2, k3⟩ := blk2 B1
  have HB0 : Hid (w1.heap[w.heap.size]? = _) := B0
  have HB1 : Hid (w1.heap[w.heap.size + 1]? = _) := B1
  have Hb2 : Hid (Below w.heap.size w w1) := hb2
  clear hb1 hb2 B0 B1 hW
  go_wp2_with fail
  have B2 := blk_store2 (a := .float .f64 (wholeLo (wrap32 x))) (b := .float .f64 (wholeHi (wrap32 x))) HB1.out
  have B3 : ((w1.setCell ⟨w.heap.size + 1, 0, none⟩ (.float .f64 (wholeLo (wrap32 x)))).setCell ⟨w.heap.size + 1, 1, none⟩ (.float .f64 (wholeHi (wrap32 x)))).heap[w.heap.size]? = _ := blk_set_ne (blk_set_ne HB0.out (by omega)) (by omega)
  have hb4 : Below w.heap.size w ((w1.setCell ⟨w.heap.size + 1, 0, none⟩ (.float .f64 (wholeLo (wrap32 x)))).setCell ⟨w.heap.size + 1, 1, none⟩ (.float .f64 (wholeHi (wrap32 x)))) := (Hb2.out.setCell (by simp) _).setCell (by simp) _
  clear k0 k1 k2 k3 HB0 HB1 Hb2 hz
  generalize ((w1.setCell ⟨w.heap.size + 1, 0, none⟩ (.float .f64 (wholeLo (wrap32 x)))).setCell ⟨w.heap.size + 1, 1, none⟩ (.float .f64 (wholeHi (wrap32 x)))) = W3 at *
  refine (code_nil _).mono ?_
  rintro e w4 ⟨rfl, rfl⟩
  have hb5 : Below w4.heap.size w4 w4 := Below.refl _ _
  have B2 := blk_below B2 hb5
  have B3 := blk_below B3 hb5
  have Hb6 : Hid (Below w.heap.size w w4) := hb4.trans (hb5.mono hb4.size)
  obtain ⟨k0, k1, -, -⟩ := blk2 B2
  have HB3 : Hid (w4.heap[w.heap.size]? = _) := B3
  clear B2 B3 hb4 hb5
  go_wp2_with fail
  refine (box_any (wholeLo (wrap32 x)) (wholeHi (wrap32 x)) _).mono ?_
  rintro e w5 ⟨rfl, hb7⟩
  obtain ⟨k10, k11, k12, k13⟩ := blk2 (blk_below HB3.out hb7)
  have Hb8 : Hid (Below w.heap.size w w5) := Hb6.out.trans (hb7.mono Hb6.out.size)
  clear hb7 HB3 Hb6 k0 k1
  go_wp2
  refine bodyPost_ret (v := .tuple #[.agg #[.int .u64 ((wholeLo (wrap32 x)) : Int), .int .u64 ((wholeHi (wrap32 x)) : Int)], .int .i64 0]) (by simp [results, Tryz.results32, go_sem, k10, k11]) rfl ?_
  exact ⟨rfl, (Hb8.out.setCell (by simp) _).setCell (by simp) _⟩

theorem makeN_code (lo hi : Nat) : (makeN lo hi).2.2 ≤ 2 := by
  unfold makeN
  split
  · decide
  · split <;> simp

set_option maxHeartbeats 400000 in
theorem plainExact_3 (A : Nat → Addr) (x : Int) (b : Nat) (w : World) (hx : IntKind.u64.wrap x = (b : Int)) (hb : b < 18446744073709551616) (hS : Sents A w) :
    Calls Tryz.prog 32 #[.int .i64 3, .int .i64 x] w fun e w' => e = .returned (.tuple #[.agg #[.int .u64 ((makeN b b).1 : Int), .int .u64 ((makeN b b).2.1 : Int)], .int .i64 ((makeN b b).2.2 : Int)]) ∧ Below w.heap.size w w' := by
  have HX : Hid (IntKind.u64.wrap x = (b : Int)) := hx
  have HB : Hid (b < 18446744073709551616) := hb
  have HS : Hid (Sents A w) := hS
  clear hx hb hS
  go_enter Tryz.func32, Tryz.ntmps32
  go_wp2_with fail
  rw [HX.out]
  refine (float_any b _).mono ?_
  rintro e w' ⟨rfl, rfl⟩
  go_wp2_with fail
  have B0 := blk_old (blk_new w (Obj.cells #[Value.int IntKind.u64 0, Value.int IntKind.u64 0] 33)) (Obj.cells #[Value.float FloatKind.f64 0, Value.float FloatKind.f64 0] 67)
  have B1 := blk_new (w.alloc (Obj.cells #[Value.int IntKind.u64 0, Value.int IntKind.u64 0] 33)) (Obj.cells #[Value.float FloatKind.f64 0, Value.float FloatKind.f64 0] 67)
  have hW : Below w.heap.size w ((w.alloc (Obj.cells #[Value.int IntKind.u64 0, Value.int IntKind.u64 0] 33)).alloc (Obj.cells #[Value.float FloatKind.f64 0, Value.float FloatKind.f64 0] 67)) := ((Below.refl _ _).alloc (Nat.le_refl _) _).alloc (by simp) _
  simp only [World.size_alloc] at B1
  generalize ((w.alloc (Obj.cells #[Value.int IntKind.u64 0, Value.int IntKind.u64 0] 33)).alloc (Obj.cells #[Value.float FloatKind.f64 0, Value.float FloatKind.f64 0] 67)) = W2 at *
  refine (exact_float64 A b _ HB.out (HS.out.below hW (Nat.le_refl _))).mono ?_
  rintro e w1 ⟨rfl, hb1⟩
  have B0 := blk_below B0 hb1
  have B1 := blk_below B1 hb1
  have hb2 := hW.trans (hb1.mono hW.size)
  have hz : w.heap.size + 1 < w1.heap.size := (Array.getElem?_eq_some_iff.1 B1).1
  obtain ⟨k0, k1, k2, k3⟩ := blk2 B1
  have HB0 : Hid (w1.heap[w.heap.size]? = _) := B0
  have HB1 : Hid (w1.heap[w.heap.size + 1]? = _) := B1
  have Hb2 : Hid (Below w.heap.size w w1) := hb2
  clear hb1 hb2 B0 B1 hW
  go_wp2_with fail
  have B2 := blk_store2 (a := .float .f64 (makeN b b).1) (b := .float .f64 (makeN b b).2.1) HB1.out
  have B3 : ((w1.setCell ⟨w.heap.size + 1, 0, none⟩ (.float .f64 (makeN b b).1)).setCell ⟨w.heap.size + 1, 1, none⟩ (.float .f64 (makeN b b).2.1)).heap[w.heap.size]? = _ := blk_set_ne (blk_set_ne HB0.out (by omega)) (by omega)
  have hb4 : Below w.heap.size w ((w1.setCell ⟨w.heap.size + 1, 0, none⟩ (.float .f64 (makeN b b).1)).setCell ⟨w.heap.size + 1, 1, none⟩ (.float .f64 (makeN b b).2.1)) := (Hb2.out.setCell (by simp) _).setCell (by simp) _
  clear k0 k1 k2 k3 HB0 HB1 Hb2 hz
  generalize ((w1.setCell ⟨w.heap.size + 1, 0, none⟩ (.float .f64 (makeN b b).1)).setCell ⟨w.heap.size + 1, 1, none⟩ (.float .f64 (makeN b b).2.1)) = W3 at *
  have hS5 := HS.out.below hb4 (Nat.le_refl _)
  refine (code_errV A (makeN b b).2.2 _ (by have := makeN_code b b; omega) hS5).mono ?_
  rintro e w4 ⟨rfl, hb5⟩
  have B2 := blk_below B2 hb5
  have B3 := blk_below B3 hb5
  have Hb6 : Hid (Below w.heap.size w w4) := hb4.trans (hb5.mono hb4.size)
  obtain ⟨k0, k1, -, -⟩ := blk2 B2
  have HB3 : Hid (w4.heap[w.heap.size]? = _) := B3
  clear B2 B3 hb4 hb5
  go_wp2_with fail
  refine (box_any (makeN b b).1 (makeN b b).2.1 _).mono ?_
  rintro e w5 ⟨rfl, hb7⟩
  obtain ⟨k10, k11, k12, k13⟩ := blk2 (blk_below HB3.out hb7)
  have Hb8 : Hid (Below w.heap.size w w5) := Hb6.out.trans (hb7.mono Hb6.out.size)
  clear hb7 HB3 Hb6 k0 k1
  go_wp2
  refine bodyPost_ret (v := .tuple #[.agg #[.int .u64 ((makeN b b).1 : Int), .int .u64 ((makeN b b).2.1 : Int)], .int .i64 ((makeN b b).2.2 : Int)]) (by simp [results, Tryz.results32, go_sem, k10, k11]) rfl ?_
  exact ⟨rfl, (Hb8.out.setCell (by simp) _).setCell (by simp) _⟩

set_option maxHeartbeats 400000 in
theorem plainExact_5 (A : Nat → Addr) (x : Int) (b : Nat) (w : World) (hx : IntKind.u64.wrap x = (b : Int)) (hb : b < 18446744073709551616) (hS : Sents A w) :
    Calls Tryz.prog 32 #[.int .i64 5, .int .i64 x] w fun e w' => e = .returned (.tuple #[.agg #[.int .u64 ((makeN b b).1 : Int), .int .u64 ((makeN b b).2.1 : Int)], .int .i64 ((makeN b b).2.2 : Int)]) ∧ Below w.heap.size w w' := by
  have HX : Hid (IntKind.u64.wrap x = (b : Int)) := hx
  have HB : Hid (b < 18446744073709551616) := hb
  have HS : Hid (Sents A w) := hS
  clear hx hb hS
  go_enter Tryz.func32, Tryz.ntmps32
  go_wp2_with fail
  rw [HX.out]
  refine (float_any b _).mono ?_
  rintro e w' ⟨rfl, rfl⟩
  go_wp2_with fail
  have B0 := blk_old (blk_new w (Obj.cells #[Value.int IntKind.u64 0, Value.int IntKind.u64 0] 33)) (Obj.cells #[Value.float FloatKind.f64 0, Value.float FloatKind.f64 0] 67)
  have B1 := blk_new (w.alloc (Obj.cells #[Value.int IntKind.u64 0, Value.int IntKind.u64 0] 33)) (Obj.cells #[Value.float FloatKind.f64 0, Value.float FloatKind.f64 0] 67)
  have hW : Below w.heap.size w ((w.alloc (Obj.cells #[Value.int IntKind.u64 0, Value.int IntKind.u64 0] 33)).alloc (Obj.cells #[Value.float FloatKind.f64 0, Value.float FloatKind.f64 0] 67)) := ((Below.refl _ _).alloc (Nat.le_refl _) _).alloc (by simp) _
  simp only [World.size_alloc] at B1
  generalize ((w.alloc (Obj.cells #[Value.int IntKind.u64 0, Value.int IntKind.u64 0] 33)).alloc (Obj.cells #[Value.float FloatKind.f64 0, Value.float FloatKind.f64 0] 67)) = W2 at *
  refine (exact_real A b _ HB.out (HS.out.below hW (Nat.le_refl _))).mono ?_
  rintro e w1 ⟨rfl, hb1⟩
  have B0 := blk_below B0 hb1
  have B1 := blk_below B1 hb1
  have hb2 := hW.trans (hb1.mono hW.size)
  have hz : w.heap.size + 1 < w1.heap.size := (Array.getElem?_eq_some_iff.1 B1).1
  obtain ⟨k0, k1, k2, k3⟩ := blk2 B1
  have HB0 : Hid (w1.heap[w.heap.size]? = _) := B0
  have HB1 : Hid (w1.heap[w.heap.size + 1]? = _) := B1
  have Hb2 : Hid (Below w.heap.size w w1) := hb2
  clear hb1 hb2 B0 B1 hW
  go_wp2_with fail
  have B2 := blk_store2 (a := .float .f64 (makeN b b).1) (b := .float .f64 (makeN b b).2.1) HB1.out
  have B3 : ((w1.setCell ⟨w.heap.size + 1, 0, none⟩ (.float .f64 (makeN b b).1)).setCell ⟨w.heap.size + 1, 1, none⟩ (.float .f64 (makeN b b).2.1)).heap[w.heap.size]? = _ := blk_set_ne (blk_set_ne HB0.out (by omega)) (by omega)
  have hb4 : Below w.heap.size w ((w1.setCell ⟨w.heap.size + 1, 0, none⟩ (.float .f64 (makeN b b).1)).setCell ⟨w.heap.size + 1, 1, none⟩ (.float .f64 (makeN b b).2.1)) := (Hb2.out.setCell (by simp) _).setCell (by simp) _
  clear k0 k1 k2 k3 HB0 HB1 Hb2 hz
  generalize ((w1.setCell ⟨w.heap.size + 1, 0, none⟩ (.float .f64 (makeN b b).1)).setCell ⟨w.heap.size + 1, 1, none⟩ (.float .f64 (makeN b b).2.1)) = W3 at *
  have hS5 := HS.out.below hb4 (Nat.le_refl _)
  refine (code_errV A (makeN b b).2.2 _ (by have := makeN_code b b; omega) hS5).mono ?_
  rintro e w4 ⟨rfl, hb5⟩
  have B2 := blk_below B2 hb5
  have B3 := blk_below B3 hb5
  have Hb6 : Hid (Below w.heap.size w w4) := hb4.trans (hb5.mono hb4.size)
  obtain ⟨k0, k1, -, -⟩ := blk2 B2
  have HB3 : Hid (w4.heap[w.heap.size]? = _) := B3
  clear B2 B3 hb4 hb5
  go_wp2_with fail
  refine (box_any (makeN b b).1 (makeN b b).2.1 _).mono ?_
  rintro e w5 ⟨rfl, hb7⟩
  obtain ⟨k10, k11, k12, k13⟩ := blk2 (blk_below HB3.out hb7)
  have Hb8 : Hid (Below w.heap.size w w5) := Hb6.out.trans (hb7.mono Hb6.out.size)
  clear hb7 HB3 Hb6 k0 k1
  go_wp2
  refine bodyPost_ret (v := .tuple #[.agg #[.int .u64 ((makeN b b).1 : Int), .int .u64 ((makeN b b).2.1 : Int)], .int .i64 ((makeN b b).2.2 : Int)]) (by simp [results, Tryz.results32, go_sem, k10, k11]) rfl ?_
  exact ⟨rfl, (Hb8.out.setCell (by simp) _).setCell (by simp) _⟩

set_option maxHeartbeats 400000 in
theorem plainExact_none (k x : Int) (w : World) (hk : k ≠ 0 ∧ k ≠ 1 ∧ k ≠ 2 ∧ k ≠ 3 ∧ k ≠ 4 ∧ k ≠ 5) :
    Calls Tryz.prog 32 #[.int .i64 k, .int .i64 x] w fun e w' => e = .returned (.tuple #[.agg #[.int .u64 0, .int .u64 0], .int .i64 0]) ∧ Below w.heap.size w w' := by
  obtain ⟨h0, h1, h2, h3, h4, h5⟩ := hk
  have t0 : (k == 0) = false := by rw [beq_eq_false_iff_ne]; exact h0
  have t1 : (k == 1) = false := by rw [beq_eq_false_iff_ne]; exact h1
  have t2 : (k == 2) = false := by rw [beq_eq_false_iff_ne]; exact h2
  have t3 : (k == 3) = false := by rw [beq_eq_false_iff_ne]; exact h3
  have t4 : (k == 4) = false := by rw [beq_eq_false_iff_ne]; exact h4
  have t5 : (k == 5) = false := by rw [beq_eq_false_iff_ne]; exact h5
  clear h0 h1 h2 h3 h4 h5
  go_enter Tryz.func32, Tryz.ntmps32
  go_wp2_with fail
  have B0 := blk_old (blk_new w (Obj.cells #[Value.int IntKind.u64 0, Value.int IntKind.u64 0] 33)) (Obj.cells #[Value.float FloatKind.f64 0, Value.float FloatKind.f64 0] 67)
  have B1 := blk_new (w.alloc (Obj.cells #[Value.int IntKind.u64 0, Value.int IntKind.u64 0] 33)) (Obj.cells #[Value.float FloatKind.f64 0, Value.float FloatKind.f64 0] 67)
  have hW : Below w.heap.size w ((w.alloc (Obj.cells #[Value.int IntKind.u64 0, Value.int IntKind.u64 0] 33)).alloc (Obj.cells #[Value.float FloatKind.f64 0, Value.float FloatKind.f64 0] 67)) := ((Below.refl _ _).alloc (Nat.le_refl _) _).alloc (by simp) _
  simp only [World.size_alloc] at B1
  generalize ((w.alloc (Obj.cells #[Value.int IntKind.u64 0, Value.int IntKind.u64 0] 33)).alloc (Obj.cells #[Value.float FloatKind.f64 0, Value.float FloatKind.f64 0] 67)) = W2 at *
  refine (code_nil _).mono ?_
  rintro e w4 ⟨rfl, rfl⟩
  obtain ⟨k0, k1, k2, k3⟩ := blk2 B1
  have HB3 : Hid (w4.heap[w.heap.size]? = _) := B0
  have Hb6 : Hid (Below w.heap.size w w4) := hW
  clear B0 B1 hW
  go_wp2_with fail
  refine (box_any 0 0 _).mono ?_
  rintro e w5 ⟨rfl, hb7⟩
  obtain ⟨k10, k11, k12, k13⟩ := blk2 (blk_below HB3.out hb7)
  have Hb8 : Hid (Below w.heap.size w w5) := Hb6.out.trans (hb7.mono Hb6.out.size)
  clear hb7 HB3 Hb6 k0 k1 k2 k3
  go_wp2
  refine bodyPost_ret (v := .tuple #[.agg #[.int .u64 0, .int .u64 0], .int .i64 0]) (by simp [results, Tryz.results32, go_sem, k10, k11]) rfl ?_
  exact ⟨rfl, (Hb8.out.setCell (by simp) _).setCell (by simp) _⟩
end Go.Proofs.YtonhpkigoplmaaaGreatDoor
namespace Go.Proofs.YtonhpkigoplmaaaGreatDoor
open Go.RowKit Go.Extern Ieee

theorem whole_eq (y : Int) (h1 : -9223372036854775808 ≤ y) (h2 : y < 9223372036854775808) : aroundN (wholeN y) (wholeN y) = (wholeLo y, wholeHi y, 0) := by
  unfold aroundN wholeN wholeLo wholeHi
  simp only
  by_cases h0 : y = 0
  · subst h0; rfl
  · have hn : y.natAbs ≠ 0 := by omega
    have hb := bl_le (n := y.natAbs) (k := 64) (by have : (2 : Nat) ^ 64 = 18446744073709551616 := by decide
                                                   omega)
    have hbp := bl_pos (Nat.pos_of_ne_zero hn)
    have hm := mf_bounds (Nat.pos_of_ne_zero hn)
    rw [roundN_rung _ _ _ hn, roundN_rung _ _ _ hn, if_neg h0, if_neg h0]
    have key : ∀ c : Bool, rngW (decide (y < 0)) (rung y.natAbs 0 + if c = true then 1 else 0) = (wd (decide (y < 0)) (rung y.natAbs 0 + if c = true then 1 else 0).toNat, true) := by
      intro c
      unfold rngW
      have : 553942754166571008 ≤ (rung y.natAbs 0 + if c = true then 1 else 0) ∧ (rung y.natAbs 0 + if c = true then 1 else 0) ≤ 8660422083433463808 := by
        unfold rung
        split <;> omega
      rw [if_pos this]
      rfl
    rw [key, key]
    rfl

theorem round_plain {b : Nat} {s : Bool} {n : Nat} {e way : Int} (hb : b < 18446744073709551616) (h : plainN b = some (s, n, e)) : roundN s n e way = (posW b, true) := by
  unfold plainN at h
  split at h
  · rename_i h0
    simp only [Option.some.injEq, Prod.mk.injEq] at h
    obtain ⟨rfl, rfl, rfl⟩ := h
    have : posW b = 0 := by unfold posW; rw [if_pos (by omega)]
    rw [this]; rfl
  · rename_i h0
    split at h
    · cases h
    · rename_i h1
      simp only [Option.some.injEq, Prod.mk.injEq] at h
      obtain ⟨rfl, rfl, rfl⟩ := h
      have hp : posW b = b := by unfold posW; rw [if_neg (by omega)]
      have hb53 := bl53 (q := b % 4503599627370496 + 4503599627370496) (by omega) (by omega)
      unfold roundN mant
      rw [if_neg (by omega), hb53, if_pos (Nat.le_refl _), hp, Nat.sub_self, Nat.pow_zero, Nat.mul_one]
      simp only
      unfold packN
      rw [if_neg (by omega)]
      congr 1
      by_cases hs : b / 9223372036854775808 = 1
      · rw [decide_eq_true hs, if_pos rfl]; omega
      · rw [decide_eq_false hs, if_neg Bool.false_ne_true]; omega

theorem lessW_self (b : Nat) : lessW b b = false := by
  unfold lessW
  rw [lessN_eq, decide_eq_false_iff_not]
  exact Int.lt_irrefl _

theorem float_eq (b : Nat) (hb : b < 18446744073709551616) : (if (plainN b).isSome = true then aroundN ((plainN b).getD (false, 0, 0)) ((plainN b).getD (false, 0, 0)) else (0, 0, 1)) = makeN b b := by
  unfold makeN
  rw [lessW_self]
  cases h : plainN b
  · rfl
  · rename_i t
    obtain ⟨s, n, e⟩ := t
    simp only [Option.isSome_some, if_true, Option.getD_some]
    unfold aroundN
    simp only
    rw [round_plain hb h, round_plain hb h]
    rfl

/-- What the program gives is what the document gives. -/
theorem plainExact_any (A : Nat → Addr) (k x : Int) (w : World) (h1 : -9223372036854775808 ≤ x) (h2 : x < 9223372036854775808) (hS : Sents A w) :
    Calls Tryz.prog 32 #[.int .i64 k, .int .i64 x] w fun e w' => e = .returned (.tuple #[.agg #[.int .u64 ((refExactN k x).1 : Int), .int .u64 ((refExactN k x).2.1 : Int)], .int .i64 ((refExactN k x).2.2 : Int)]) ∧ Below w.heap.size w w' := by
  have hw : -9223372036854775808 ≤ wrap32 x ∧ wrap32 x < 9223372036854775808 := by unfold wrap32; omega
  by_cases a : k = 0 ∨ k = 2
  · rw [show refExactN k x = aroundN (wholeN x) (wholeN x) by unfold refExactN; rw [if_pos a], whole_eq x h1 h2]
    rcases a with rfl | rfl
    · exact plainExact_0 x w h1 h2
    · exact plainExact_2 x w h1 h2
  · by_cases b : k = 1 ∨ k = 4
    · rw [show refExactN k x = aroundN (wholeN (wrap32 x)) (wholeN (wrap32 x)) by unfold refExactN; rw [if_neg a, if_pos b], whole_eq _ hw.1 hw.2]
      rcases b with rfl | rfl
      · exact plainExact_1 x w
      · exact plainExact_4 x w
    · by_cases c : k = 3 ∨ k = 5
      · have hx : IntKind.u64.wrap x = (((x % 18446744073709551616).toNat : Nat) : Int) := by rw [IntKind.wrap_u64]; omega
        have hb : (x % 18446744073709551616).toNat < 18446744073709551616 := by omega
        rw [show refExactN k x = makeN (x % 18446744073709551616).toNat (x % 18446744073709551616).toNat by unfold refExactN; rw [if_neg a, if_neg b, if_pos c]; exact float_eq _ hb]
        rcases c with rfl | rfl
        · exact plainExact_3 A x _ w hx hb hS
        · exact plainExact_5 A x _ w hx hb hS
      · rw [show refExactN k x = (0, 0, 0) by unfold refExactN; rw [if_neg a, if_neg b, if_neg c]]
        exact plainExact_none k x w (by omega)
end Go.Proofs.YtonhpkigoplmaaaGreatDoor
namespace Go.Proofs.YtonhpkigoplmaaaGreatDoor
open Go.RowKit

theorem whole_law (A : Nat → Addr) (n : Int) (w : World) (h : n.natAbs ≤ 1152921504606846976) (hS : Sents A w) :
    Calls Tryz.prog 20 #[.int .i64 n] w fun e w' => e = .returned (.tuple #[.agg #[.int .u64 (fl n : Int), .int .u64 (fh n : Int)], .bool true]) ∧ Below w.heap.size w w' := by
  have HX : Hid (∀ W, Below w.heap.size w W → Calls Tryz.prog 32 #[.int .i64 2, .int .i64 n] W fun e w' => e = .returned (.tuple #[.agg #[.int .u64 (fl n : Int), .int .u64 (fh n : Int)], .int .i64 0]) ∧ Below W.heap.size W w') := by
    intro W hb
    have := plainExact_any A 2 n W (by omega) (by omega) (hS.below hb (Nat.le_refl _))
    rw [exact_whole h] at this
    exact this
  have hwn : wrap64 n = n := by unfold wrap64; omega
  clear h hS
  generalize fl n = l at *
  generalize fh n = u at *
  go_enter Tryz.func20, Tryz.ntmps20
  go_wp2_with fail
  have B2 := blk_new w (Obj.cells #[.int .u64 0, .int .u64 0] 33)
  have hW : Below w.heap.size w (w.alloc (Obj.cells #[.int .u64 0, .int .u64 0] 33)) := (Below.refl _ _).alloc (Nat.le_refl _) _
  generalize (w.alloc (Obj.cells #[.int .u64 0, .int .u64 0] 33)) = W2 at *
  refine Calls.mono (HX.out _ hW) ?_
  rintro ev w9 ⟨rfl, hb9⟩
  have HK : Hid (w9.heap[w.heap.size]? = _) := blk_below B2 hb9
  have HB : Hid (Below w.heap.size w w9) := hW.trans (hb9.mono hW.size)
  clear hb9 hW B2 HX
  obtain ⟨q0, q1, q2, q3⟩ := blk2 HK.out
  have lq := lt_of_row HK.out
  go_wp2_with fail
  obtain ⟨p0, p1, -, -⟩ := blk2 (blk_old (blk_store2 (a := .int .u64 (l : Int)) (b := .int .u64 (u : Int)) HK.out) (Obj.cells #[.int .u64 (l : Int), .int .u64 (u : Int)] 33))
  refine bodyPost_ret (v := .tuple #[.agg #[.int .u64 (l : Int), .int .u64 (u : Int)], .bool true]) (by simp [results, Tryz.results20, go_sem, p0, p1]) rfl ?_
  exact ⟨rfl, ((HB.out.setCell (by simp) _).setCell (by simp) _).alloc (by have := HB.out.size; simp; omega) _⟩

end Go.Proofs.YtonhpkigoplmaaaGreatDoor
namespace Go.Proofs.YtonhpkigoplmaaaGreatDoor
open Go.RowKit

theorem i64_low3 (n : Int) : bits .and .i64 n 7 = n % 8 := by
  show IntKind.i64.wrap ((BitVec.ofInt 64 n &&& BitVec.ofInt 64 7).toNat : Int) = _
  rw [BitVec.toNat_and, ofInt_nat, ofInt_nat, IntKind.wrap_i64, show ((7 : Int) % 18446744073709551616).toNat = 7 by decide]
  have : (n % 18446744073709551616).toNat &&& 7 = (n % 18446744073709551616).toNat % 8 := Nat.and_two_pow_sub_one_eq_mod _ 3
  rw [this]
  omega

theorem i64_low4 (n : Int) : bits .and .i64 n 15 = n % 16 := by
  show IntKind.i64.wrap ((BitVec.ofInt 64 n &&& BitVec.ofInt 64 15).toNat : Int) = _
  rw [BitVec.toNat_and, ofInt_nat, ofInt_nat, IntKind.wrap_i64, show ((15 : Int) % 18446744073709551616).toNat = 15 by decide]
  have : (n % 18446744073709551616).toNat &&& 15 = (n % 18446744073709551616).toNat % 16 := Nat.and_two_pow_sub_one_eq_mod _ 4
  rw [this]
  omega

theorem i64_low5 (n : Int) : bits .and .i64 n 31 = n % 32 := by
  show IntKind.i64.wrap ((BitVec.ofInt 64 n &&& BitVec.ofInt 64 31).toNat : Int) = _
  rw [BitVec.toNat_and, ofInt_nat, ofInt_nat, IntKind.wrap_i64, show ((31 : Int) % 18446744073709551616).toNat = 31 by decide]
  have : (n % 18446744073709551616).toNat &&& 31 = (n % 18446744073709551616).toNat % 32 := Nat.and_two_pow_sub_one_eq_mod _ 5
  rw [this]
  omega

set_option maxRecDepth 100000 in
theorem small4_any (n : Int) (w : World) : Calls Tryz.prog 19 #[.int .i64 n, .int .i64 4] w fun e w' => e = .returned (.int .i64 (n % 16 - 8)) ∧ Below w.heap.size w w' := by
  have hb := i64_low4 n
  go_enter Tryz.func19, Tryz.ntmps19
  go_wp2_with fail
  go_region
  go_wp2
  go_ret
  exact ⟨rfl, (Below.refl _ _).drew⟩

set_option maxRecDepth 100000 in
theorem small5_any (n : Int) (w : World) : Calls Tryz.prog 19 #[.int .i64 n, .int .i64 5] w fun e w' => e = .returned (.int .i64 (n % 32 - 16)) ∧ Below w.heap.size w w' := by
  have hb := i64_low5 n
  go_enter Tryz.func19, Tryz.ntmps19
  go_wp2_with fail
  go_region
  go_wp2
  go_ret
  exact ⟨rfl, (Below.refl _ _).drew⟩

set_option maxHeartbeats 1000000 in
set_option maxRecDepth 100000 in
theorem holds_refB (l h : Nat) (n : Int) (w : World) (i : Iv l h) (h1 : -9223372036854775808 ≤ n) (h2 : n < 9223372036854775808) (p q : Bool) (c1 : lessT (wholeN n) (plT l) = p) (c2 : lessT (plT h) (wholeN n) = q) :
    Calls Tryz.prog 51 #[.agg #[.int .u64 (l : Int), .int .u64 (h : Int)], .int .i64 n] w fun e w' => e = .returned (.bool (!p && !q)) ∧ Below w.heap.size w w' := by
  have HM : Hid (∀ W, Calls Tryz.prog 27 #[.agg #[.int .u64 (l : Int), .int .u64 (h : Int)]] W fun e w' => e = .returned (.tuple #[.agg #[.int .u64 (l : Int), .int .u64 (h : Int)], .int .i64 0]) ∧ Below W.heap.size W w') := by
    intro W
    have := refMake_any l h W i.lt1 i.lt2
    rw [make_iv i] at this
    exact this
  have HD : Hid (MadeG #[.agg #[.int .u64 (l : Int), .int .u64 (h : Int)]] (plT l) (plT h)) := by
    have := made_gives l h i.lt1 i.lt2
    rw [make_iv i] at this
    exact this
  have HW : Hid (∀ W, Calls Tryz.prog 78 #[.int .i64 n] W fun e w' => ∃ co lc cc, e = .returned (.agg #[.bool (wholeN n).1, .slice co lc cc, .int .i64 (wholeN n).2.2]) ∧ lc = (digits (wholeN n).2.1).length ∧ NatV w' (.slice co lc cc) (wholeN n).2.1 ∧ Below W.heap.size W w') := by
    intro W
    refine (whole_any n W h1 h2).mono ?_
    rintro e w' ⟨v, rfl, ⟨co, lc, cc, rfl, e1, e2⟩, hb⟩
    exact ⟨co, lc, cc, rfl, e1, e2, hb⟩
  have sn : Small (wholeN n) ∧ (digits (wholeN n).2.1).length ≤ 400000 := ⟨whole_small h1 h2, by have := len_of_bl (wholeN n).2.1; have := (whole_small h1 h2).1; omega⟩
  have sl := (pl_of i.p1).sm.both
  have sh := (pl_of i.p2).sm.both
  have less : ∀ (x y : Bool × Nat × Int) (u v : Value) (w' : World), (Small x ∧ (digits x.2.1).length ≤ 400000) → (Small y ∧ (digits y.2.1).length ≤ 400000) → NumV w' u x.1 x.2.1 x.2.2 → NumV w' v y.1 y.2.1 y.2.2 → Calls Tryz.prog 58 #[u, v] w' fun ev w'' => ev = .returned (.bool (lessT x y)) ∧ Below w'.heap.size w' w'' := by
    intro x y u v w' sx sy hu hv
    obtain ⟨⟨_, p2, p3⟩, p4⟩ := sx
    obtain ⟨⟨_, q2, q3⟩, q4⟩ := sy
    exact less_any _ _ _ _ _ _ _ _ w' hu hv p4 q4 (by omega) (by omega) (by omega) (by omega)
  have HL1 : Hid (∀ (W : World) (u v : Value), NumV W u (wholeN n).1 (wholeN n).2.1 (wholeN n).2.2 → NumV W v (plT l).1 (plT l).2.1 (plT l).2.2 → Calls Tryz.prog 58 #[u, v] W fun ev w'' => ev = .returned (.bool p) ∧ Below W.heap.size W w'') := by
    intro W u v hu hv
    have := less _ _ u v W sn sl hu hv
    rwa [c1] at this
  have HL2 : Hid (∀ (W : World) (u v : Value), NumV W u (plT h).1 (plT h).2.1 (plT h).2.2 → NumV W v (wholeN n).1 (wholeN n).2.1 (wholeN n).2.2 → Calls Tryz.prog 58 #[u, v] W fun ev w'' => ev = .returned (.bool q) ∧ Below W.heap.size W w'') := by
    intro W u v hu hv
    have := less _ _ u v W sh sn hu hv
    rwa [c2] at this
  clear less sn sl sh c1 c2 i h1 h2
  go_enter Tryz.func51, Tryz.ntmps51
  go_wp2_with fail
  have B0 := blk_new w (Obj.cells #[.int .u64 (l : Int), .int .u64 (h : Int)] 28)
  have hW : Below w.heap.size w (w.alloc (Obj.cells #[.int .u64 (l : Int), .int .u64 (h : Int)] 28)) := (Below.refl _ _).alloc (Nat.le_refl _) _
  generalize (w.alloc (Obj.cells #[.int .u64 (l : Int), .int .u64 (h : Int)] 28)) = W2 at *
  refine Calls.mono (HM.out _) ?_
  rintro e w1 ⟨rfl, hb1⟩
  have HW1 : Hid (Below w.heap.size w w1) := hW.trans (hb1.mono hW.size)
  have HB1 : Hid (w1.heap[w.heap.size]? = _) := blk_below B0 hb1
  obtain ⟨x0, x1, -, -⟩ := blk2 HB1.out
  have lx := lt_of_row HB1.out
  clear B0 hW hb1 HM
  go_wp2_with fail
  have HW2 : Hid (Below w.heap.size w (w1.alloc (Obj.cells #[.int .u64 (l : Int), .int .u64 (h : Int)] 28))) := HW1.out.alloc HW1.out.size _
  clear HW1 HB1 x0 x1 lx
  generalize (w1.alloc (Obj.cells #[.int .u64 (l : Int), .int .u64 (h : Int)] 28)) = W3 at *
  refine Calls.mono (HD.out _) ?_
  rintro e w2 ⟨ao, la, ca, bo, lb, cb, rfl, hla, hlb, hna, hnb, hb2⟩
  have HW3 : Hid (Below w.heap.size w (w2.alloc (Obj.cells #[.bool (plT l).1, .slice ao la ca, .int .i64 (plT l).2.2, .bool (plT h).1, .slice bo lb cb, .int .i64 (plT h).2.2] 98))) := (HW2.out.trans (hb2.mono HW2.out.size)).alloc (Nat.le_trans HW2.out.size hb2.size) _
  have LA : Hid (la = _) := hla
  have LB : Hid (lb = _) := hlb
  have NA : Hid (NatV (w2.alloc (Obj.cells #[.bool (plT l).1, .slice ao la ca, .int .i64 (plT l).2.2, .bool (plT h).1, .slice bo lb cb, .int .i64 (plT h).2.2] 98)) (.slice ao la ca) _) := hna.below ((Below.refl _ _).alloc (Nat.le_refl _) _) (Nat.le_refl _)
  have NB : Hid (NatV (w2.alloc (Obj.cells #[.bool (plT l).1, .slice ao la ca, .int .i64 (plT l).2.2, .bool (plT h).1, .slice bo lb cb, .int .i64 (plT h).2.2] 98)) (.slice bo lb cb) _) := hnb.below ((Below.refl _ _).alloc (Nat.le_refl _) _) (Nat.le_refl _)
  have C0 := blk_new w2 (Obj.cells #[.bool (plT l).1, .slice ao la ca, .int .i64 (plT l).2.2, .bool (plT h).1, .slice bo lb cb, .int .i64 (plT h).2.2] 98)
  clear hla hlb hna hnb hb2 HW2 HD
  go_wp2_with fail
  generalize hga : w2.heap.size = ga at *
  generalize (w2.alloc (Obj.cells #[.bool (plT l).1, .slice ao la ca, .int .i64 (plT l).2.2, .bool (plT h).1, .slice bo lb cb, .int .i64 (plT h).2.2] 98)) = W4 at *
  refine Calls.mono (HW.out _) ?_
  rintro e w3 ⟨co, lc, cc, rfl, hlc, hnc, hb3⟩
  have hS3 : Below W4.heap.size W4 (w3.alloc (Obj.cells #[.bool (wholeN n).1, .slice co lc cc, .int .i64 (wholeN n).2.2] 92)) := hb3.alloc hb3.size _
  have HW4 : Hid (Below w.heap.size w (w3.alloc (Obj.cells #[.bool (wholeN n).1, .slice co lc cc, .int .i64 (wholeN n).2.2] 92))) := HW3.out.trans (hS3.mono HW3.out.size)
  have LC : Hid (lc = _) := hlc
  have NA : Hid (NatV (w3.alloc (Obj.cells #[.bool (wholeN n).1, .slice co lc cc, .int .i64 (wholeN n).2.2] 92)) (.slice ao la ca) _) := NA.out.below hS3 (Nat.le_refl _)
  have NB : Hid (NatV (w3.alloc (Obj.cells #[.bool (wholeN n).1, .slice co lc cc, .int .i64 (wholeN n).2.2] 92)) (.slice bo lb cb) _) := NB.out.below hS3 (Nat.le_refl _)
  have NC : Hid (NatV (w3.alloc (Obj.cells #[.bool (wholeN n).1, .slice co lc cc, .int .i64 (wholeN n).2.2] 92)) (.slice co lc cc) _) := hnc.below ((Below.refl _ _).alloc (Nat.le_refl _) _) (Nat.le_refl _)
  have D0 : Hid ((w3.alloc (Obj.cells #[.bool (wholeN n).1, .slice co lc cc, .int .i64 (wholeN n).2.2] 92)).heap[ga]? = _) := blk_old (blk_below C0 hb3) _
  have D1 : Hid ((w3.alloc (Obj.cells #[.bool (wholeN n).1, .slice co lc cc, .int .i64 (wholeN n).2.2] 92)).heap[w3.heap.size]? = _) := blk_new w3 _
  obtain ⟨y0, y1, y2, y3, y4, y5, -, -, -, -, -, -⟩ := blk6 (blk_below C0 hb3)
  have ly := lt_of_row (blk_below C0 hb3)
  clear hlc hnc hb3 hS3 HW3 HW C0
  go_wp2_with fail
  clear y0 y1 y2 y3 y4 y5 ly
  generalize hgc : w3.heap.size = gc at *
  generalize (w3.alloc (Obj.cells #[.bool (wholeN n).1, .slice co lc cc, .int .i64 (wholeN n).2.2] 92)) = W5 at *
  refine Calls.mono (HL1.out _ _ _ ⟨_, _, _, rfl, LC.out, NC.out⟩ ⟨_, _, _, rfl, LA.out, NA.out⟩) ?_
  rintro e w4 ⟨rfl, hb4⟩
  have HW5 : Hid (Below w.heap.size w w4) := HW4.out.trans (hb4.mono HW4.out.size)
  have NB : Hid (NatV w4 (.slice bo lb cb) _) := NB.out.below hb4 (Nat.le_refl _)
  have NC : Hid (NatV w4 (.slice co lc cc) _) := NC.out.below hb4 (Nat.le_refl _)
  obtain ⟨y0, y1, y2, y3, y4, y5, -, -, -, -, -, -⟩ := blk6 (blk_below D0.out hb4)
  obtain ⟨z0, z1, z2, -, -, -⟩ := blk3 (blk_below D1.out hb4)
  clear hb4 D0 D1 NA HW4 HL1
  go_wp2_with fail
  refine Calls.mono (HL2.out _ _ _ ⟨_, _, _, rfl, LB.out, NB.out⟩ ⟨_, _, _, rfl, LC.out, NC.out⟩) ?_
  rintro e w5 ⟨rfl, hb5⟩
  have hZ : Below w.heap.size w w5 := HW5.out.trans (hb5.mono HW5.out.size)
  clear hb5 y0 y1 y2 y3 y4 y5 z0 z1 z2 HW5 HL2 NB NC
  cases p
  · go_wp2
    go_ret
    exact ⟨by cases q <;> rfl, hZ⟩
  · go_wp2
    go_ret
    exact ⟨rfl, hZ⟩

theorem holds_lawB (l h : Nat) (n : Int) (w : World) (i : Iv l h) (h1 : -9223372036854775808 ≤ n) (h2 : n < 9223372036854775808) (p q : Bool) (c1 : lessT (wholeN n) (plT l) = p) (c2 : lessT (plT h) (wholeN n) = q) :
    Calls Tryz.prog 22 #[.agg #[.int .u64 (l : Int), .int .u64 (h : Int)], .int .i64 n] w fun e w' => e = .returned (.bool (!p && !q)) ∧ Below w.heap.size w w' := by
  have H : Hid (∀ W, Calls Tryz.prog 51 #[.agg #[.int .u64 (l : Int), .int .u64 (h : Int)], .int .i64 n] W fun e w' => e = .returned (.bool (!p && !q)) ∧ Below W.heap.size W w') := fun W => holds_refB l h n W i h1 h2 p q c1 c2
  clear i h1 h2 c1 c2
  go_enter Tryz.func22, Tryz.ntmps22
  go_wp2_with fail
  refine Calls.mono (H.out _) ?_
  rintro e w5 ⟨rfl, hb5⟩
  have hZ : Below w.heap.size w w5 := ((Below.refl _ w).alloc (Nat.le_refl _) _).trans (hb5.mono (by simp))
  clear hb5 H
  go_wp2
  go_ret
  exact ⟨rfl, hZ⟩
end Go.Proofs.YtonhpkigoplmaaaGreatDoor
namespace Go.Proofs.YtonhpkigoplmaaaGreatDoor
open Go.RowKit

/-- Boxes as they lie in memory. -/
def BxV (W : World) (ao : Option Addr) (n : Nat) (xs : Nat → Nat × Nat) : Prop :=
  n = 0 ∨ ∃ g off, ao = some ⟨g, off, none⟩ ∧ g < W.heap.size ∧ ∀ i, i < n → W.cell? ⟨g, off + i * 2, none⟩ = some (.int .u64 ((xs i).1 : Int)) ∧ W.cell? ⟨g, off + i * 2 + 1, none⟩ = some (.int .u64 ((xs i).2 : Int))

theorem BxV.below {W W' : World} {ao : Option Addr} {n : Nat} {xs : Nat → Nat × Nat} (h : BxV W ao n xs) (hb : Below W.heap.size W W') : BxV W' ao n xs := by
  rcases h with h0 | ⟨g, off, e, hg, hc⟩
  · exact .inl h0
  · exact .inr ⟨g, off, e, Nat.lt_of_lt_of_le hg hb.size, fun i hi => by rw [hb.cell (by exact hg), hb.cell (by exact hg)]; exact hc i hi⟩

theorem bvs_get : ∀ (l : List (Nat × Nat)) (i : Nat), i < l.length → (bvs l)[i * 2]? = some (.int .u64 ((l.getD i (0, 0)).1 : Int)) ∧ (bvs l)[i * 2 + 1]? = some (.int .u64 ((l.getD i (0, 0)).2 : Int))
  | [], i, h => by simp at h
  | p :: l, 0, _ => ⟨rfl, rfl⟩
  | p :: l, i + 1, h => by
    have := bvs_get l i (by simp at h; omega)
    rw [show (i + 1) * 2 = i * 2 + 1 + 1 by omega, show i * 2 + 1 + 1 + 1 = (i * 2 + 1) + 1 + 1 by omega]
    exact this

theorem BxV.of_owns {w : World} {v : Value} {B T : Nat} (l : List (Nat × Nat)) (h : w.ownsRow B T 2 v l.length (bvs l)) : ∃ ao c, v = .slice ao l.length c ∧ l.length ≤ c ∧ BxV w ao l.length (fun i => l.getD i (0, 0)) := by
  obtain ⟨_, h2⟩ := h
  rcases h2 with ⟨rfl, h0⟩ | ⟨g, cap, cur, rfl, hg, hh, hn, hcap, hs, ht⟩
  · rw [h0]; exact ⟨none, 0, rfl, Nat.le_refl _, .inl rfl⟩
  · refine ⟨_, _, rfl, hn, .inr ⟨g, 0, rfl, (Array.getElem?_eq_some_iff.1 hh).1, fun i hi => ?_⟩⟩
    have hb := bvs_get l i hi
    rw [← ht, List.getElem?_take, List.getElem?_take, if_pos (by omega), if_pos (by omega), Array.getElem?_toList, Array.getElem?_toList] at hb
    rw [cell_of_cur hh, cell_of_cur hh, Nat.zero_add]
    exact hb

end Go.Proofs.YtonhpkigoplmaaaGreatDoor
namespace Go.Proofs.YtonhpkigoplmaaaGreatDoor
open Go.RowKit


/-- What Roots answers: its error. -/
def rootsE (ps : Nat → Nat) (n : Nat) (d : Int) : Nat :=
  if rightN ps n ≠ 0 then rightN ps n else if d < 0 ∨ 8 < d then 8 else 0
/-- What Roots answers: its pieces. -/
def rootsL (ps : Nat → Nat) (n : Nat) (d : Int) (l h : Nat) : List (Nat × Nat) :=
  if rootsE ps n d = 0 then pieceN ps n d.toNat l h else []

end Go.Proofs.YtonhpkigoplmaaaGreatDoor
namespace Go.Proofs.YtonhpkigoplmaaaGreatDoor
open Go.RowKit
attribute [local go_sem] run_store_float

set_option maxHeartbeats 4000000 in
set_option maxRecDepth 100000 in
theorem search_drop (po : Option Addr) (n pc : Nat) (dep : Int) (xl xh v1 v2 : Nat) (y : Value) (w : World)
    (hH : ∀ W, Below w.heap.size w W → Calls Tryz.prog 134 #[.slice po n pc, .agg #[.float .f64 xl, .float .f64 xh]] W fun e w' => e = .returned (.tuple #[.agg #[.float .f64 v1, .float .f64 v2], .nilIface]) ∧ Below W.heap.size W w')
    (hz : ∀ W, Calls Tryz.prog 93 #[.agg #[.float .f64 v1, .float .f64 v2]] W fun e w' => e = .returned (.bool false) ∧ Below W.heap.size W w') :
    Calls Tryz.prog 105 #[.slice po n pc, .agg #[.float .f64 xl, .float .f64 xh], .int .i64 dep, y] w fun e w' => e = .returned (.bool true) ∧ Below w.heap.size w w' := by
  have HH := hid hH
  have HZ := hid hz
  clear hH hz
  go_enter Tryz.func105, Tryz.ntmps105
  go_wp2_with fail
  have B4 := blk_new w (Obj.cells #[.float .f64 xl, .float .f64 xh] 67)
  have hW : Below w.heap.size w (w.alloc (Obj.cells #[.float .f64 xl, .float .f64 xh] 67)) := (Below.refl _ _).alloc (Nat.le_refl _) _
  generalize (w.alloc (Obj.cells #[.float .f64 xl, .float .f64 xh] 67)) = W1 at *
  refine Calls.mono (HH.out _ hW) ?_
  rintro e w1 ⟨rfl, hb1⟩
  have HB : Hid (Below w.heap.size w w1) := hW.trans (hb1.mono hW.size)
  clear B4 hW hb1 HH
  have HW2 : Hid (Below w.heap.size w (w1.alloc (Obj.cells #[.float .f64 v1, .float .f64 v2] 67))) := HB.out.alloc HB.out.size _
  clear HB
  go_wp2_with fail
  refine Calls.mono (HZ.out _) ?_
  rintro e w2 ⟨rfl, hb2⟩
  have hF : Below w.heap.size w w2 := HW2.out.trans (hb2.mono HW2.out.size)
  clear HW2 HZ hb2
  go_wp2_with fail
  go_ret
  exact ⟨rfl, hF⟩
end Go.Proofs.YtonhpkigoplmaaaGreatDoor
namespace Go.Proofs.YtonhpkigoplmaaaGreatDoor
open Go.RowKit

/-- Every block of cells, but of plain's boxes and lists of boxes, lies as it lay. -/
structure KeepC (W W' : World) : Prop where
  size : W.heap.size ≤ W'.heap.size
  os : W'.os = W.os
  tape : W'.tape = W.tape
  output : W'.output = W.output
  blk : ∀ (b : Nat) (x : Array Value) (t : TypeId) (f : Nat × Nat), W.heap[b]? = some (.cells x t f) → t ≠ 33 → t ≠ 41 → W'.heap[b]? = some (.cells x t f)

theorem KeepC.trans {A B C : World} (h : KeepC A B) (k : KeepC B C) : KeepC A C :=
  ⟨Nat.le_trans h.size k.size, k.os.trans h.os, k.tape.trans h.tape, k.output.trans h.output, fun b x t f e h1 h2 => k.blk b x t f (h.blk b x t f e h1 h2) h1 h2⟩
theorem KeepC.of_below {W W' : World} (h : Below W.heap.size W W') : KeepC W W' :=
  ⟨h.size, h.os, h.tape, h.output, fun b _ _ _ e _ _ => (h.block b (Array.getElem?_eq_some_iff.1 e).1).trans e⟩
theorem KeepC.put (W : World) (l : Nat) (o o' : Obj) (h : W.heap[l]? = some o) (hc : o.isCells = false) : KeepC W (W.putObj l o') := by
  have g := grownBy_putObj' W l o'
  refine ⟨g.size, g.os, g.tape, g.output, fun b x t f e _ _ => ?_⟩
  rw [g.block b (Array.getElem?_eq_some_iff.1 e).1 (fun hb => ?_)]
  · exact e
  · cases hb
    rw [e] at h
    cases h
    simp [Obj.isCells] at hc
end Go.Proofs.YtonhpkigoplmaaaGreatDoor
namespace Go.Proofs.YtonhpkigoplmaaaGreatDoor
open Go.RowKit
attribute [local go_sem] run_store_float

set_option maxHeartbeats 4000000 in
set_option maxRecDepth 100000 in
theorem search_split (po : Option Addr) (n pc : Nat) (dep : Int) (xl xh v1 v2 m : Nat) (y : Value) (w : World)
    (hH : ∀ W, Below w.heap.size w W → Calls Tryz.prog 134 #[.slice po n pc, .agg #[.float .f64 xl, .float .f64 xh]] W fun e w' => ∃ v, e = .returned (.tuple #[.agg #[.float .f64 v1, .float .f64 v2], v]) ∧ (v = .nilIface ∧ (∀ W, Calls Tryz.prog 93 #[.agg #[.float .f64 v1, .float .f64 v2]] W fun e w' => e = .returned (.bool true) ∧ Below W.heap.size W w') ∨ (∃ p, v = .iface 229 p) ∨ (∃ p, v = .iface 136 p)) ∧ Below W.heap.size W w')
    (hm : ∀ W, Calls Tryz.prog 152 #[.agg #[.float .f64 xl, .float .f64 xh]] W fun e w' => e = .returned (.float .f64 m) ∧ Below W.heap.size W w')
    (hp : ∀ W, Calls Tryz.prog 112 #[.float .f64 m] W fun e w' => e = .returned (.bool true) ∧ w' = W)
    (o1 : FloatKind.f64.format.order m xl = some .gt) (o2 : FloatKind.f64.format.order m xh = some .lt) (hd : 0 < dep) (hd8 : dep ≤ 8) (T1 T2 R : World → Prop)
    (h1 : ∀ W, Below w.heap.size w W → Calls Tryz.prog 105 #[.slice po n pc, .agg #[.float .f64 xl, .float .f64 m], .int .i64 (dep - 1), y] W fun e w' => e = .returned (.bool true) ∧ T1 w' ∧ KeepC W w' ∨ e = .returned (.bool false) ∧ R w')
    (h2 : ∀ W, T1 W → KeepC w W → Calls Tryz.prog 105 #[.slice po n pc, .agg #[.float .f64 m, .float .f64 xh], .int .i64 (dep - 1), y] W fun e w' => e = .returned (.bool true) ∧ T2 w' ∧ KeepC W w' ∨ e = .returned (.bool false) ∧ R w') :
    Calls Tryz.prog 105 #[.slice po n pc, .agg #[.float .f64 xl, .float .f64 xh], .int .i64 dep, y] w fun e w' => e = .returned (.bool true) ∧ T2 w' ∧ KeepC w w' ∨ e = .returned (.bool false) ∧ R w' := by
  have HH := hid hH
  have HM := hid hm
  have HP := hid hp
  have H1 := hid h1
  have H2 := hid h2
  clear hH hm hp h1 h2
  go_enter Tryz.func105, Tryz.ntmps105
  go_wp2_with fail
  have B4 := blk_new w (Obj.cells #[.float .f64 xl, .float .f64 xh] 67)
  have hW : Below w.heap.size w (w.alloc (Obj.cells #[.float .f64 xl, .float .f64 xh] 67)) := (Below.refl _ _).alloc (Nat.le_refl _) _
  generalize (w.alloc (Obj.cells #[.float .f64 xl, .float .f64 xh] 67)) = W1 at *
  refine Calls.mono (HH.out _ hW) ?_
  rintro e w1 ⟨v, rfl, hv, hb1⟩
  have HB : Hid (Below w.heap.size w (w1.alloc (Obj.cells #[.float .f64 v1, .float .f64 v2] 67))) := (hW.trans (hb1.mono hW.size)).alloc (Nat.le_trans hW.size hb1.size) _
  have HK : Hid ((w1.alloc (Obj.cells #[.float .f64 v1, .float .f64 v2] 67)).heap[w.heap.size]? = some (.cells #[.float .f64 xl, .float .f64 xh] 67 (0, 0))) := blk_old (blk_below B4 hb1) _
  obtain ⟨x0, x1, -, -⟩ := blk2 (blk_below B4 hb1)
  have lx := lt_of_row (blk_below B4 hb1)
  clear B4 hW hb1 HH
  rcases hv with ⟨rfl, hz⟩ | ⟨p, rfl⟩ | ⟨p, rfl⟩
  · have HZ := hid hz
    clear hz
    go_wp2_with fail
    clear x0 x1 lx
    generalize (w1.alloc (Obj.cells #[.float .f64 v1, .float .f64 v2] 67)) = W2 at *
    refine Calls.mono (HZ.out _) ?_
    rintro e w2 ⟨rfl, hb2⟩
    have HB2 : Hid (Below w.heap.size w w2) := HB.out.trans (hb2.mono HB.out.size)
    have HK2 : Hid (w2.heap[w.heap.size]? = some (.cells #[.float .f64 xl, .float .f64 xh] 67 (0, 0))) := blk_below HK.out hb2
    obtain ⟨y0, y1, -, -⟩ := blk2 HK2.out
    clear HB HK HZ hb2
    go_wp2_with fail
    refine Calls.mono (HM.out _) ?_
    rintro e w3 ⟨rfl, hb3⟩
    have HB3 : Hid (Below w.heap.size w w3) := HB2.out.trans (hb3.mono HB2.out.size)
    have HK3 : Hid (w3.heap[w.heap.size]? = some (.cells #[.float .f64 xl, .float .f64 xh] 67 (0, 0))) := blk_below HK2.out hb3
    obtain ⟨z0, z1, -, -⟩ := blk2 HK3.out
    clear HB2 HK2 HM hb3 y0 y1
    have hd0 : dep ≠ 0 := by omega
    go_wp2_with fail
    refine Calls.mono (HP.out _) ?_
    rintro e w4 ⟨rfl, rfl⟩
    clear HP
    go_wp2_with fail
    refine Calls.mono (H1.out _ HB3.out) ?_
    rintro e w5 (⟨rfl, ht, hk⟩ | ⟨rfl, hr⟩)
    · have HT := hid ht
      have HC : Hid (KeepC w w5) := (KeepC.of_below HB3.out).trans hk
      obtain ⟨u0, u1, -, -⟩ := blk2 (hk.blk _ _ _ _ HK3.out (by decide) (by decide))
      clear ht hk HB3 HK3 H1 z0 z1
      go_wp2_with fail
      refine Calls.mono (H2.out _ HT.out HC.out) ?_
      rintro e w6 (⟨rfl, ht2, hk2⟩ | ⟨rfl, hr⟩)
      · have hF := HC.out.trans hk2
        clear u0 u1 HT HC H2
        go_wp2_with fail
        go_ret
        exact .inl ⟨rfl, ht2, hF⟩
      · clear u0 u1 HT HC H2
        go_wp2_with fail
        go_ret
        exact .inr ⟨rfl, hr⟩
    · clear z0 z1 HB3 HK3 H1 H2
      go_wp2_with fail
      go_ret
      exact .inr ⟨rfl, hr⟩
  · have HB2 := HB
    have HK2 := HK
    clear HB HK
    go_wp2_with fail
    clear x0 x1 lx
    generalize (w1.alloc (Obj.cells #[.float .f64 v1, .float .f64 v2] 67)) = w2 at *
    obtain ⟨y0, y1, -, -⟩ := blk2 HK2.out
    refine Calls.mono (HM.out _) ?_
    rintro e w3 ⟨rfl, hb3⟩
    have HB3 : Hid (Below w.heap.size w w3) := HB2.out.trans (hb3.mono HB2.out.size)
    have HK3 : Hid (w3.heap[w.heap.size]? = some (.cells #[.float .f64 xl, .float .f64 xh] 67 (0, 0))) := blk_below HK2.out hb3
    obtain ⟨z0, z1, -, -⟩ := blk2 HK3.out
    clear HB2 HK2 HM hb3 y0 y1
    have hd0 : dep ≠ 0 := by omega
    go_wp2_with fail
    refine Calls.mono (HP.out _) ?_
    rintro e w4 ⟨rfl, rfl⟩
    clear HP
    go_wp2_with fail
    refine Calls.mono (H1.out _ HB3.out) ?_
    rintro e w5 (⟨rfl, ht, hk⟩ | ⟨rfl, hr⟩)
    · have HT := hid ht
      have HC : Hid (KeepC w w5) := (KeepC.of_below HB3.out).trans hk
      obtain ⟨u0, u1, -, -⟩ := blk2 (hk.blk _ _ _ _ HK3.out (by decide) (by decide))
      clear ht hk HB3 HK3 H1 z0 z1
      go_wp2_with fail
      refine Calls.mono (H2.out _ HT.out HC.out) ?_
      rintro e w6 (⟨rfl, ht2, hk2⟩ | ⟨rfl, hr⟩)
      · have hF := HC.out.trans hk2
        clear u0 u1 HT HC H2
        go_wp2_with fail
        go_ret
        exact .inl ⟨rfl, ht2, hF⟩
      · clear u0 u1 HT HC H2
        go_wp2_with fail
        go_ret
        exact .inr ⟨rfl, hr⟩
    · clear z0 z1 HB3 HK3 H1 H2
      go_wp2_with fail
      go_ret
      exact .inr ⟨rfl, hr⟩
  · have HB2 := HB
    have HK2 := HK
    clear HB HK
    go_wp2_with fail
    clear x0 x1 lx
    generalize (w1.alloc (Obj.cells #[.float .f64 v1, .float .f64 v2] 67)) = w2 at *
    obtain ⟨y0, y1, -, -⟩ := blk2 HK2.out
    refine Calls.mono (HM.out _) ?_
    rintro e w3 ⟨rfl, hb3⟩
    have HB3 : Hid (Below w.heap.size w w3) := HB2.out.trans (hb3.mono HB2.out.size)
    have HK3 : Hid (w3.heap[w.heap.size]? = some (.cells #[.float .f64 xl, .float .f64 xh] 67 (0, 0))) := blk_below HK2.out hb3
    obtain ⟨z0, z1, -, -⟩ := blk2 HK3.out
    clear HB2 HK2 HM hb3 y0 y1
    have hd0 : dep ≠ 0 := by omega
    go_wp2_with fail
    refine Calls.mono (HP.out _) ?_
    rintro e w4 ⟨rfl, rfl⟩
    clear HP
    go_wp2_with fail
    refine Calls.mono (H1.out _ HB3.out) ?_
    rintro e w5 (⟨rfl, ht, hk⟩ | ⟨rfl, hr⟩)
    · have HT := hid ht
      have HC : Hid (KeepC w w5) := (KeepC.of_below HB3.out).trans hk
      obtain ⟨u0, u1, -, -⟩ := blk2 (hk.blk _ _ _ _ HK3.out (by decide) (by decide))
      clear ht hk HB3 HK3 H1 z0 z1
      go_wp2_with fail
      refine Calls.mono (H2.out _ HT.out HC.out) ?_
      rintro e w6 (⟨rfl, ht2, hk2⟩ | ⟨rfl, hr⟩)
      · have hF := HC.out.trans hk2
        clear u0 u1 HT HC H2
        go_wp2_with fail
        go_ret
        exact .inl ⟨rfl, ht2, hF⟩
      · clear u0 u1 HT HC H2
        go_wp2_with fail
        go_ret
        exact .inr ⟨rfl, hr⟩
    · clear z0 z1 HB3 HK3 H1 H2
      go_wp2_with fail
      go_ret
      exact .inr ⟨rfl, hr⟩
end Go.Proofs.YtonhpkigoplmaaaGreatDoor
