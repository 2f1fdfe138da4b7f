/-
  plain.Exact.
-/
import Derived.Test.YtonhpkigoplmaaaGreatDoorExactH
namespace Go.Proofs.YtonhpkigoplmaaaGreatDoor
open Go.RowKit Go.Extern Ieee
attribute [local go_sem] run_store_float

set_option maxHeartbeats 400000 in
theorem plainExact_0 (x : Int) (w : World) (h1 : -9223372036854775808 ≤ x) (h2 : x < 9223372036854775808) :
    Calls Tryz.prog 32 #[.int .i64 0, .int .i64 x] w fun e w' => e = .returned (.tuple #[.agg #[.int .u64 (wholeLo x : Int), .int .u64 (wholeHi x : Int)], .int .i64 0]) ∧ Below w.heap.size w w' := by
  have HY : Hid (-9223372036854775808 ≤ x ∧ x < 9223372036854775808) := by show _ ∧ _; omega
  clear h1 h2
  go_enter Tryz.func32, Tryz.ntmps32
  go_wp2_with fail
  have B0 := blk_old (blk_new w (Obj.cells #[Value.int IntKind.u64 0, Value.int IntKind.u64 0] 33)) (Obj.cells #[Value.float FloatKind.f64 0, Value.float FloatKind.f64 0] 67)
  have B1 := blk_new (w.alloc (Obj.cells #[Value.int IntKind.u64 0, Value.int IntKind.u64 0] 33)) (Obj.cells #[Value.float FloatKind.f64 0, Value.float FloatKind.f64 0] 67)
  have hW : Below w.heap.size w ((w.alloc (Obj.cells #[Value.int IntKind.u64 0, Value.int IntKind.u64 0] 33)).alloc (Obj.cells #[Value.float FloatKind.f64 0, Value.float FloatKind.f64 0] 67)) := ((Below.refl _ _).alloc (Nat.le_refl _) _).alloc (by simp) _
  simp only [World.size_alloc] at B1
  generalize ((w.alloc (Obj.cells #[Value.int IntKind.u64 0, Value.int IntKind.u64 0] 33)).alloc (Obj.cells #[Value.float FloatKind.f64 0, Value.float FloatKind.f64 0] 67)) = W2 at *
  refine (exact_int x _ HY.out.1 HY.out.2).mono ?_
  rintro e w1 ⟨rfl, hb1⟩
  have B0 := blk_below B0 hb1
  have B1 := blk_below B1 hb1
  have hb2 := hW.trans (hb1.mono hW.size)
  have hz : w.heap.size + 1 < w1.heap.size := (Array.getElem?_eq_some_iff.1 B1).1
  obtain ⟨k0, k1, k2, k3⟩ := blk2 B1
  have HB0 : Hid (w1.heap[w.heap.size]? = _) := B0
  have HB1 : Hid (w1.heap[w.heap.size + 1]? = _) := B1
  have Hb2 : Hid (Below w.heap.size w w1) := hb2
  clear hb1 hb2 B0 B1 hW
  go_wp2_with fail
  have B2 := blk_store2 (a := .float .f64 (wholeLo x)) (b := .float .f64 (wholeHi x)) HB1.out
  have B3 : ((w1.setCell ⟨w.heap.size + 1, 0, none⟩ (.float .f64 (wholeLo x))).setCell ⟨w.heap.size + 1, 1, none⟩ (.float .f64 (wholeHi x))).heap[w.heap.size]? = _ := blk_set_ne (blk_set_ne HB0.out (by omega)) (by omega)
  have hb4 : Below w.heap.size w ((w1.setCell ⟨w.heap.size + 1, 0, none⟩ (.float .f64 (wholeLo x))).setCell ⟨w.heap.size + 1, 1, none⟩ (.float .f64 (wholeHi x))) := (Hb2.out.setCell (by simp) _).setCell (by simp) _
  clear k0 k1 k2 k3 HB0 HB1 Hb2 hz
  generalize ((w1.setCell ⟨w.heap.size + 1, 0, none⟩ (.float .f64 (wholeLo x))).setCell ⟨w.heap.size + 1, 1, none⟩ (.float .f64 (wholeHi x))) = W3 at *
  refine (code_nil _).mono ?_
  rintro e w4 ⟨rfl, rfl⟩
  have hb5 : Below w4.heap.size w4 w4 := Below.refl _ _
  have B2 := blk_below B2 hb5
  have B3 := blk_below B3 hb5
  have Hb6 : Hid (Below w.heap.size w w4) := hb4.trans (hb5.mono hb4.size)
  obtain ⟨k0, k1, -, -⟩ := blk2 B2
  have HB3 : Hid (w4.heap[w.heap.size]? = _) := B3
  clear B2 B3 hb4 hb5
  go_wp2_with fail
  refine (box_any (wholeLo x) (wholeHi x) _).mono ?_
  rintro e w5 ⟨rfl, hb7⟩
  obtain ⟨k10, k11, k12, k13⟩ := blk2 (blk_below HB3.out hb7)
  have Hb8 : Hid (Below w.heap.size w w5) := Hb6.out.trans (hb7.mono Hb6.out.size)
  clear hb7 HB3 Hb6 k0 k1
  go_wp2
  refine bodyPost_ret (v := .tuple #[.agg #[.int .u64 ((wholeLo x) : Int), .int .u64 ((wholeHi x) : Int)], .int .i64 0]) (by simp [results, Tryz.results32, go_sem, k10, k11]) rfl ?_
  exact ⟨rfl, (Hb8.out.setCell (by simp) _).setCell (by simp) _⟩

set_option maxHeartbeats 400000 in
theorem plainExact_2 (x : Int) (w : World) (h1 : -9223372036854775808 ≤ x) (h2 : x < 9223372036854775808) :
    Calls Tryz.prog 32 #[.int .i64 2, .int .i64 x] w fun e w' => e = .returned (.tuple #[.agg #[.int .u64 (wholeLo x : Int), .int .u64 (wholeHi x : Int)], .int .i64 0]) ∧ Below w.heap.size w w' := by
  have HY : Hid (-9223372036854775808 ≤ x ∧ x < 9223372036854775808) := by show _ ∧ _; omega
  clear h1 h2
  go_enter Tryz.func32, Tryz.ntmps32
  go_wp2_with fail
  have B0 := blk_old (blk_new w (Obj.cells #[Value.int IntKind.u64 0, Value.int IntKind.u64 0] 33)) (Obj.cells #[Value.float FloatKind.f64 0, Value.float FloatKind.f64 0] 67)
  have B1 := blk_new (w.alloc (Obj.cells #[Value.int IntKind.u64 0, Value.int IntKind.u64 0] 33)) (Obj.cells #[Value.float FloatKind.f64 0, Value.float FloatKind.f64 0] 67)
  have hW : Below w.heap.size w ((w.alloc (Obj.cells #[Value.int IntKind.u64 0, Value.int IntKind.u64 0] 33)).alloc (Obj.cells #[Value.float FloatKind.f64 0, Value.float FloatKind.f64 0] 67)) := ((Below.refl _ _).alloc (Nat.le_refl _) _).alloc (by simp) _
  simp only [World.size_alloc] at B1
  generalize ((w.alloc (Obj.cells #[Value.int IntKind.u64 0, Value.int IntKind.u64 0] 33)).alloc (Obj.cells #[Value.float FloatKind.f64 0, Value.float FloatKind.f64 0] 67)) = W2 at *
  refine (exact_int64 x _ HY.out.1 HY.out.2).mono ?_
  rintro e w1 ⟨rfl, hb1⟩
  have B0 := blk_below B0 hb1
  have B1 := blk_below B1 hb1
  have hb2 := hW.trans (hb1.mono hW.size)
  have hz : w.heap.size + 1 < w1.heap.size := (Array.getElem?_eq_some_iff.1 B1).1
  obtain ⟨k0, k1, k2, k3⟩ := blk2 B1
  have HB0 : Hid (w1.heap[w.heap.size]? = _) := B0
  have HB1 : Hid (w1.heap[w.heap.size + 1]? = _) := B1
  have Hb2 : Hid (Below w.heap.size w w1) := hb2
  clear hb1 hb2 B0 B1 hW
  go_wp2_with fail
  have B2 := blk_store2 (a := .float .f64 (wholeLo x)) (b := .float .f64 (wholeHi x)) HB1.out
  have B3 : ((w1.setCell ⟨w.heap.size + 1, 0, none⟩ (.float .f64 (wholeLo x))).setCell ⟨w.heap.size + 1, 1, none⟩ (.float .f64 (wholeHi x))).heap[w.heap.size]? = _ := blk_set_ne (blk_set_ne HB0.out (by omega)) (by omega)
  have hb4 : Below w.heap.size w ((w1.setCell ⟨w.heap.size + 1, 0, none⟩ (.float .f64 (wholeLo x))).setCell ⟨w.heap.size + 1, 1, none⟩ (.float .f64 (wholeHi x))) := (Hb2.out.setCell (by simp) _).setCell (by simp) _
  clear k0 k1 k2 k3 HB0 HB1 Hb2 hz
  generalize ((w1.setCell ⟨w.heap.size + 1, 0, none⟩ (.float .f64 (wholeLo x))).setCell ⟨w.heap.size + 1, 1, none⟩ (.float .f64 (wholeHi x))) = W3 at *
  refine (code_nil _).mono ?_
  rintro e w4 ⟨rfl, rfl⟩
  have hb5 : Below w4.heap.size w4 w4 := Below.refl _ _
  have B2 := blk_below B2 hb5
  have B3 := blk_below B3 hb5
  have Hb6 : Hid (Below w.heap.size w w4) := hb4.trans (hb5.mono hb4.size)
  obtain ⟨k0, k1, -, -⟩ := blk2 B2
  have HB3 : Hid (w4.heap[w.heap.size]? = _) := B3
  clear B2 B3 hb4 hb5
  go_wp2_with fail
  refine (box_any (wholeLo x) (wholeHi x) _).mono ?_
  rintro e w5 ⟨rfl, hb7⟩
  obtain ⟨k10, k11, k12, k13⟩ := blk2 (blk_below HB3.out hb7)
  have Hb8 : Hid (Below w.heap.size w w5) := Hb6.out.trans (hb7.mono Hb6.out.size)
  clear hb7 HB3 Hb6 k0 k1
  go_wp2
  refine bodyPost_ret (v := .tuple #[.agg #[.int .u64 ((wholeLo x) : Int), .int .u64 ((wholeHi x) : Int)], .int .i64 0]) (by simp [results, Tryz.results32, go_sem, k10, k11]) rfl ?_
  exact ⟨rfl, (Hb8.out.setCell (by simp) _).setCell (by simp) _⟩

set_option maxHeartbeats 400000 in
theorem plainExact_1 (x : Int) (w : World) :
    Calls Tryz.prog 32 #[.int .i64 1, .int .i64 x] w fun e w' => e = .returned (.tuple #[.agg #[.int .u64 (wholeLo (wrap32 x) : Int), .int .u64 (wholeHi (wrap32 x) : Int)], .int .i64 0]) ∧ Below w.heap.size w w' := by
  have HY : Hid (-9223372036854775808 ≤ (wrap32 x) ∧ (wrap32 x) < 9223372036854775808) := by show _ ∧ _; unfold wrap32; omega
  go_enter Tryz.func32, Tryz.ntmps32
  go_wp2_with fail
  have B0 := blk_old (blk_new w (Obj.cells #[Value.int IntKind.u64 0, Value.int IntKind.u64 0] 33)) (Obj.cells #[Value.float FloatKind.f64 0, Value.float FloatKind.f64 0] 67)
  have B1 := blk_new (w.alloc (Obj.cells #[Value.int IntKind.u64 0, Value.int IntKind.u64 0] 33)) (Obj.cells #[Value.float FloatKind.f64 0, Value.float FloatKind.f64 0] 67)
  have hW : Below w.heap.size w ((w.alloc (Obj.cells #[Value.int IntKind.u64 0, Value.int IntKind.u64 0] 33)).alloc (Obj.cells #[Value.float FloatKind.f64 0, Value.float FloatKind.f64 0] 67)) := ((Below.refl _ _).alloc (Nat.le_refl _) _).alloc (by simp) _
  simp only [World.size_alloc] at B1
  generalize ((w.alloc (Obj.cells #[Value.int IntKind.u64 0, Value.int IntKind.u64 0] 33)).alloc (Obj.cells #[Value.float FloatKind.f64 0, Value.float FloatKind.f64 0] 67)) = W2 at *
  refine (exact_int32 (wrap32 x) _ HY.out.1 HY.out.2).mono ?_
  rintro e w1 ⟨rfl, hb1⟩
  have B0 := blk_below B0 hb1
  have B1 := blk_below B1 hb1
  have hb2 := hW.trans (hb1.mono hW.size)
  have hz : w.heap.size + 1 < w1.heap.size := (Array.getElem?_eq_some_iff.1 B1).1
  obtain ⟨k0, k1, k2, k3⟩ := blk2 B1
  have HB0 : Hid (w1.heap[w.heap.size]? = _) := B0
  have HB1 : Hid (w1.heap[w.heap.size + 1]? = _) := B1
  have Hb2 : Hid (Below w.heap.size w w1) := hb2
  clear hb1 hb2 B0 B1 hW
  go_wp2_with fail
  have B2 := blk_store2 (a := .float .f64 (wholeLo (wrap32 x))) (b := .float .f64 (wholeHi (wrap32 x))) HB1.out
  have B3 : ((w1.setCell ⟨w.heap.size + 1, 0, none⟩ (.float .f64 (wholeLo (wrap32 x)))).setCell ⟨w.heap.size + 1, 1, none⟩ (.float .f64 (wholeHi (wrap32 x)))).heap[w.heap.size]? = _ := blk_set_ne (blk_set_ne HB0.out (by omega)) (by omega)
  have hb4 : Below w.heap.size w ((w1.setCell ⟨w.heap.size + 1, 0, none⟩ (.float .f64 (wholeLo (wrap32 x)))).setCell ⟨w.heap.size + 1, 1, none⟩ (.float .f64 (wholeHi (wrap32 x)))) := (Hb2.out.setCell (by simp) _).setCell (by simp) _
  clear k0 k1 k2 k3 HB0 HB1 Hb2 hz
  generalize ((w1.setCell ⟨w.heap.size + 1, 0, none⟩ (.float .f64 (wholeLo (wrap32 x)))).setCell ⟨w.heap.size + 1, 1, none⟩ (.float .f64 (wholeHi (wrap32 x)))) = W3 at *
  refine (code_nil _).mono ?_
  rintro e w4 ⟨rfl, rfl⟩
  have hb5 : Below w4.heap.size w4 w4 := Below.refl _ _
  have B2 := blk_below B2 hb5
  have B3 := blk_below B3 hb5
  have Hb6 : Hid (Below w.heap.size w w4) := hb4.trans (hb5.mono hb4.size)
  obtain ⟨k0, k1, -, -⟩ := blk2 B2
  have HB3 : Hid (w4.heap[w.heap.size]? = _) := B3
  clear B2 B3 hb4 hb5
  go_wp2_with fail
  refine (box_any (wholeLo (wrap32 x)) (wholeHi (wrap32 x)) _).mono ?_
  rintro e w5 ⟨rfl, hb7⟩
  obtain ⟨k10, k11, k12, k13⟩ := blk2 (blk_below HB3.out hb7)
  have Hb8 : Hid (Below w.heap.size w w5) := Hb6.out.trans (hb7.mono Hb6.out.size)
  clear hb7 HB3 Hb6 k0 k1
  go_wp2
  refine bodyPost_ret (v := .tuple #[.agg #[.int .u64 ((wholeLo (wrap32 x)) : Int), .int .u64 ((wholeHi (wrap32 x)) : Int)], .int .i64 0]) (by simp [results, Tryz.results32, go_sem, k10, k11]) rfl ?_
  exact ⟨rfl, (Hb8.out.setCell (by simp) _).setCell (by simp) _⟩

set_option maxHeartbeats 400000 in
theorem plainExact_4 (x : Int) (w : World) :
    Calls Tryz.prog 32 #[.int .i64 4, .int .i64 x] w fun e w' => e = .returned (.tuple #[.agg #[.int .u64 (wholeLo (wrap32 x) : Int), .int .u64 (wholeHi (wrap32 x) : Int)], .int .i64 0]) ∧ Below w.heap.size w w' := by
  have HY : Hid (-9223372036854775808 ≤ (wrap32 x) ∧ (wrap32 x) < 9223372036854775808) := by show _ ∧ _; unfold wrap32; omega
  go_enter Tryz.func32, Tryz.ntmps32
  go_wp2_with fail
  have B0 := blk_old (blk_new w (Obj.cells #[Value.int IntKind.u64 0, Value.int IntKind.u64 0] 33)) (Obj.cells #[Value.float FloatKind.f64 0, Value.float FloatKind.f64 0] 67)
  have B1 := blk_new (w.alloc (Obj.cells #[Value.int IntKind.u64 0, Value.int IntKind.u64 0] 33)) (Obj.cells #[Value.float FloatKind.f64 0, Value.float FloatKind.f64 0] 67)
  have hW : Below w.heap.size w ((w.alloc (Obj.cells #[Value.int IntKind.u64 0, Value.int IntKind.u64 0] 33)).alloc (Obj.cells #[Value.float FloatKind.f64 0, Value.float FloatKind.f64 0] 67)) := ((Below.refl _ _).alloc (Nat.le_refl _) _).alloc (by simp) _
  simp only [World.size_alloc] at B1
  generalize ((w.alloc (Obj.cells #[Value.int IntKind.u64 0, Value.int IntKind.u64 0] 33)).alloc (Obj.cells #[Value.float FloatKind.f64 0, Value.float FloatKind.f64 0] 67)) = W2 at *
  refine (exact_small (wrap32 x) _ HY.out.1 HY.out.2).mono ?_
  rintro e w1 ⟨rfl, hb1⟩
  have B0 := blk_below B0 hb1
  have B1 := blk_below B1 hb1
  have hb2 := hW.trans (hb1.mono hW.size)
  have hz : w.heap.size + 1 < w1.heap.size := (Array.getElem?_eq_some_iff.1 B1).1
  obtain ⟨k0, k1, k2, k3⟩ := blk2 B1
  have HB0 : Hid (w1.heap[w.heap.size]? = _) := B0
  have HB1 : Hid (w1.heap[w.heap.size + 1]? = _) := B1
  have Hb2 : Hid (Below w.heap.size w w1) := hb2
  clear hb1 hb2 B0 B1 hW
  go_wp2_with fail
  have B2 := blk_store2 (a := .float .f64 (wholeLo (wrap32 x))) (b := .float .f64 (wholeHi (wrap32 x))) HB1.out
  have B3 : ((w1.setCell ⟨w.heap.size + 1, 0, none⟩ (.float .f64 (wholeLo (wrap32 x)))).setCell ⟨w.heap.size + 1, 1, none⟩ (.float .f64 (wholeHi (wrap32 x)))).heap[w.heap.size]? = _ := blk_set_ne (blk_set_ne HB0.out (by omega)) (by omega)
  have hb4 : Below w.heap.size w ((w1.setCell ⟨w.heap.size + 1, 0, none⟩ (.float .f64 (wholeLo (wrap32 x)))).setCell ⟨w.heap.size + 1, 1, none⟩ (.float .f64 (wholeHi (wrap32 x)))) := (Hb2.out.setCell (by simp) _).setCell (by simp) _
  clear k0 k1 k2 k3 HB0 HB1 Hb2 hz
  generalize ((w1.setCell ⟨w.heap.size + 1, 0, none⟩ (.float .f64 (wholeLo (wrap32 x)))).setCell ⟨w.heap.size + 1, 1, none⟩ (.float .f64 (wholeHi (wrap32 x)))) = W3 at *
  refine (code_nil _).mono ?_
  rintro e w4 ⟨rfl, rfl⟩
  have hb5 : Below w4.heap.size w4 w4 := Below.refl _ _
  have B2 := blk_below B2 hb5
  have B3 := blk_below B3 hb5
  have Hb6 : Hid (Below w.heap.size w w4) := hb4.trans (hb5.mono hb4.size)
  obtain ⟨k0, k1, -, -⟩ := blk2 B2
  have HB3 : Hid (w4.heap[w.heap.size]? = _) := B3
  clear B2 B3 hb4 hb5
  go_wp2_with fail
  refine (box_any (wholeLo (wrap32 x)) (wholeHi (wrap32 x)) _).mono ?_
  rintro e w5 ⟨rfl, hb7⟩
  obtain ⟨k10, k11, k12, k13⟩ := blk2 (blk_below HB3.out hb7)
  have Hb8 : Hid (Below w.heap.size w w5) := Hb6.out.trans (hb7.mono Hb6.out.size)
  clear hb7 HB3 Hb6 k0 k1
  go_wp2
  refine bodyPost_ret (v := .tuple #[.agg #[.int .u64 ((wholeLo (wrap32 x)) : Int), .int .u64 ((wholeHi (wrap32 x)) : Int)], .int .i64 0]) (by simp [results, Tryz.results32, go_sem, k10, k11]) rfl ?_
  exact ⟨rfl, (Hb8.out.setCell (by simp) _).setCell (by simp) _⟩

theorem makeN_code (lo hi : Nat) : (makeN lo hi).2.2 ≤ 2 := by
  unfold makeN
  split
  · decide
  · split <;> simp

set_option maxHeartbeats 400000 in
theorem plainExact_3 (A : Nat → Addr) (x : Int) (b : Nat) (w : World) (hx : IntKind.u64.wrap x = (b : Int)) (hb : b < 18446744073709551616) (hS : Sents A w) :
    Calls Tryz.prog 32 #[.int .i64 3, .int .i64 x] w fun e w' => e = .returned (.tuple #[.agg #[.int .u64 ((makeN b b).1 : Int), .int .u64 ((makeN b b).2.1 : Int)], .int .i64 ((makeN b b).2.2 : Int)]) ∧ Below w.heap.size w w' := by
  have HX : Hid (IntKind.u64.wrap x = (b : Int)) := hx
  have HB : Hid (b < 18446744073709551616) := hb
  have HS : Hid (Sents A w) := hS
  clear hx hb hS
  go_enter Tryz.func32, Tryz.ntmps32
  go_wp2_with fail
  rw [HX.out]
  refine (float_any b _).mono ?_
  rintro e w' ⟨rfl, rfl⟩
  go_wp2_with fail
  have B0 := blk_old (blk_new w (Obj.cells #[Value.int IntKind.u64 0, Value.int IntKind.u64 0] 33)) (Obj.cells #[Value.float FloatKind.f64 0, Value.float FloatKind.f64 0] 67)
  have B1 := blk_new (w.alloc (Obj.cells #[Value.int IntKind.u64 0, Value.int IntKind.u64 0] 33)) (Obj.cells #[Value.float FloatKind.f64 0, Value.float FloatKind.f64 0] 67)
  have hW : Below w.heap.size w ((w.alloc (Obj.cells #[Value.int IntKind.u64 0, Value.int IntKind.u64 0] 33)).alloc (Obj.cells #[Value.float FloatKind.f64 0, Value.float FloatKind.f64 0] 67)) := ((Below.refl _ _).alloc (Nat.le_refl _) _).alloc (by simp) _
  simp only [World.size_alloc] at B1
  generalize ((w.alloc (Obj.cells #[Value.int IntKind.u64 0, Value.int IntKind.u64 0] 33)).alloc (Obj.cells #[Value.float FloatKind.f64 0, Value.float FloatKind.f64 0] 67)) = W2 at *
  refine (exact_float64 A b _ HB.out (HS.out.below hW (Nat.le_refl _))).mono ?_
  rintro e w1 ⟨rfl, hb1⟩
  have B0 := blk_below B0 hb1
  have B1 := blk_below B1 hb1
  have hb2 := hW.trans (hb1.mono hW.size)
  have hz : w.heap.size + 1 < w1.heap.size := (Array.getElem?_eq_some_iff.1 B1).1
  obtain ⟨k0, k1, k2, k3⟩ := blk2 B1
  have HB0 : Hid (w1.heap[w.heap.size]? = _) := B0
  have HB1 : Hid (w1.heap[w.heap.size + 1]? = _) := B1
  have Hb2 : Hid (Below w.heap.size w w1) := hb2
  clear hb1 hb2 B0 B1 hW
  go_wp2_with fail
  have B2 := blk_store2 (a := .float .f64 (makeN b b).1) (b := .float .f64 (makeN b b).2.1) HB1.out
  have B3 : ((w1.setCell ⟨w.heap.size + 1, 0, none⟩ (.float .f64 (makeN b b).1)).setCell ⟨w.heap.size + 1, 1, none⟩ (.float .f64 (makeN b b).2.1)).heap[w.heap.size]? = _ := blk_set_ne (blk_set_ne HB0.out (by omega)) (by omega)
  have hb4 : Below w.heap.size w ((w1.setCell ⟨w.heap.size + 1, 0, none⟩ (.float .f64 (makeN b b).1)).setCell ⟨w.heap.size + 1, 1, none⟩ (.float .f64 (makeN b b).2.1)) := (Hb2.out.setCell (by simp) _).setCell (by simp) _
  clear k0 k1 k2 k3 HB0 HB1 Hb2 hz
  generalize ((w1.setCell ⟨w.heap.size + 1, 0, none⟩ (.float .f64 (makeN b b).1)).setCell ⟨w.heap.size + 1, 1, none⟩ (.float .f64 (makeN b b).2.1)) = W3 at *
  have hS5 := HS.out.below hb4 (Nat.le_refl _)
  refine (code_errV A (makeN b b).2.2 _ (by have := makeN_code b b; omega) hS5).mono ?_
  rintro e w4 ⟨rfl, hb5⟩
  have B2 := blk_below B2 hb5
  have B3 := blk_below B3 hb5
  have Hb6 : Hid (Below w.heap.size w w4) := hb4.trans (hb5.mono hb4.size)
  obtain ⟨k0, k1, -, -⟩ := blk2 B2
  have HB3 : Hid (w4.heap[w.heap.size]? = _) := B3
  clear B2 B3 hb4 hb5
  go_wp2_with fail
  refine (box_any (makeN b b).1 (makeN b b).2.1 _).mono ?_
  rintro e w5 ⟨rfl, hb7⟩
  obtain ⟨k10, k11, k12, k13⟩ := blk2 (blk_below HB3.out hb7)
  have Hb8 : Hid (Below w.heap.size w w5) := Hb6.out.trans (hb7.mono Hb6.out.size)
  clear hb7 HB3 Hb6 k0 k1
  go_wp2
  refine bodyPost_ret (v := .tuple #[.agg #[.int .u64 ((makeN b b).1 : Int), .int .u64 ((makeN b b).2.1 : Int)], .int .i64 ((makeN b b).2.2 : Int)]) (by simp [results, Tryz.results32, go_sem, k10, k11]) rfl ?_
  exact ⟨rfl, (Hb8.out.setCell (by simp) _).setCell (by simp) _⟩

set_option maxHeartbeats 400000 in
theorem plainExact_5 (A : Nat → Addr) (x : Int) (b : Nat) (w : World) (hx : IntKind.u64.wrap x = (b : Int)) (hb : b < 18446744073709551616) (hS : Sents A w) :
    Calls Tryz.prog 32 #[.int .i64 5, .int .i64 x] w fun e w' => e = .returned (.tuple #[.agg #[.int .u64 ((makeN b b).1 : Int), .int .u64 ((makeN b b).2.1 : Int)], .int .i64 ((makeN b b).2.2 : Int)]) ∧ Below w.heap.size w w' := by
  have HX : Hid (IntKind.u64.wrap x = (b : Int)) := hx
  have HB : Hid (b < 18446744073709551616) := hb
  have HS : Hid (Sents A w) := hS
  clear hx hb hS
  go_enter Tryz.func32, Tryz.ntmps32
  go_wp2_with fail
  rw [HX.out]
  refine (float_any b _).mono ?_
  rintro e w' ⟨rfl, rfl⟩
  go_wp2_with fail
  have B0 := blk_old (blk_new w (Obj.cells #[Value.int IntKind.u64 0, Value.int IntKind.u64 0] 33)) (Obj.cells #[Value.float FloatKind.f64 0, Value.float FloatKind.f64 0] 67)
  have B1 := blk_new (w.alloc (Obj.cells #[Value.int IntKind.u64 0, Value.int IntKind.u64 0] 33)) (Obj.cells #[Value.float FloatKind.f64 0, Value.float FloatKind.f64 0] 67)
  have hW : Below w.heap.size w ((w.alloc (Obj.cells #[Value.int IntKind.u64 0, Value.int IntKind.u64 0] 33)).alloc (Obj.cells #[Value.float FloatKind.f64 0, Value.float FloatKind.f64 0] 67)) := ((Below.refl _ _).alloc (Nat.le_refl _) _).alloc (by simp) _
  simp only [World.size_alloc] at B1
  generalize ((w.alloc (Obj.cells #[Value.int IntKind.u64 0, Value.int IntKind.u64 0] 33)).alloc (Obj.cells #[Value.float FloatKind.f64 0, Value.float FloatKind.f64 0] 67)) = W2 at *
  refine (exact_real A b _ HB.out (HS.out.below hW (Nat.le_refl _))).mono ?_
  rintro e w1 ⟨rfl, hb1⟩
  have B0 := blk_below B0 hb1
  have B1 := blk_below B1 hb1
  have hb2 := hW.trans (hb1.mono hW.size)
  have hz : w.heap.size + 1 < w1.heap.size := (Array.getElem?_eq_some_iff.1 B1).1
  obtain ⟨k0, k1, k2, k3⟩ := blk2 B1
  have HB0 : Hid (w1.heap[w.heap.size]? = _) := B0
  have HB1 : Hid (w1.heap[w.heap.size + 1]? = _) := B1
  have Hb2 : Hid (Below w.heap.size w w1) := hb2
  clear hb1 hb2 B0 B1 hW
  go_wp2_with fail
  have B2 := blk_store2 (a := .float .f64 (makeN b b).1) (b := .float .f64 (makeN b b).2.1) HB1.out
  have B3 : ((w1.setCell ⟨w.heap.size + 1, 0, none⟩ (.float .f64 (makeN b b).1)).setCell ⟨w.heap.size + 1, 1, none⟩ (.float .f64 (makeN b b).2.1)).heap[w.heap.size]? = _ := blk_set_ne (blk_set_ne HB0.out (by omega)) (by omega)
  have hb4 : Below w.heap.size w ((w1.setCell ⟨w.heap.size + 1, 0, none⟩ (.float .f64 (makeN b b).1)).setCell ⟨w.heap.size + 1, 1, none⟩ (.float .f64 (makeN b b).2.1)) := (Hb2.out.setCell (by simp) _).setCell (by simp) _
  clear k0 k1 k2 k3 HB0 HB1 Hb2 hz
  generalize ((w1.setCell ⟨w.heap.size + 1, 0, none⟩ (.float .f64 (makeN b b).1)).setCell ⟨w.heap.size + 1, 1, none⟩ (.float .f64 (makeN b b).2.1)) = W3 at *
  have hS5 := HS.out.below hb4 (Nat.le_refl _)
  refine (code_errV A (makeN b b).2.2 _ (by have := makeN_code b b; omega) hS5).mono ?_
  rintro e w4 ⟨rfl, hb5⟩
  have B2 := blk_below B2 hb5
  have B3 := blk_below B3 hb5
  have Hb6 : Hid (Below w.heap.size w w4) := hb4.trans (hb5.mono hb4.size)
  obtain ⟨k0, k1, -, -⟩ := blk2 B2
  have HB3 : Hid (w4.heap[w.heap.size]? = _) := B3
  clear B2 B3 hb4 hb5
  go_wp2_with fail
  refine (box_any (makeN b b).1 (makeN b b).2.1 _).mono ?_
  rintro e w5 ⟨rfl, hb7⟩
  obtain ⟨k10, k11, k12, k13⟩ := blk2 (blk_below HB3.out hb7)
  have Hb8 : Hid (Below w.heap.size w w5) := Hb6.out.trans (hb7.mono Hb6.out.size)
  clear hb7 HB3 Hb6 k0 k1
  go_wp2
  refine bodyPost_ret (v := .tuple #[.agg #[.int .u64 ((makeN b b).1 : Int), .int .u64 ((makeN b b).2.1 : Int)], .int .i64 ((makeN b b).2.2 : Int)]) (by simp [results, Tryz.results32, go_sem, k10, k11]) rfl ?_
  exact ⟨rfl, (Hb8.out.setCell (by simp) _).setCell (by simp) _⟩

set_option maxHeartbeats 400000 in
theorem plainExact_none (k x : Int) (w : World) (hk : k ≠ 0 ∧ k ≠ 1 ∧ k ≠ 2 ∧ k ≠ 3 ∧ k ≠ 4 ∧ k ≠ 5) :
    Calls Tryz.prog 32 #[.int .i64 k, .int .i64 x] w fun e w' => e = .returned (.tuple #[.agg #[.int .u64 0, .int .u64 0], .int .i64 0]) ∧ Below w.heap.size w w' := by
  obtain ⟨h0, h1, h2, h3, h4, h5⟩ := hk
  have t0 : (k == 0) = false := by rw [beq_eq_false_iff_ne]; exact h0
  have t1 : (k == 1) = false := by rw [beq_eq_false_iff_ne]; exact h1
  have t2 : (k == 2) = false := by rw [beq_eq_false_iff_ne]; exact h2
  have t3 : (k == 3) = false := by rw [beq_eq_false_iff_ne]; exact h3
  have t4 : (k == 4) = false := by rw [beq_eq_false_iff_ne]; exact h4
  have t5 : (k == 5) = false := by rw [beq_eq_false_iff_ne]; exact h5
  clear h0 h1 h2 h3 h4 h5
  go_enter Tryz.func32, Tryz.ntmps32
  go_wp2_with fail
  have B0 := blk_old (blk_new w (Obj.cells #[Value.int IntKind.u64 0, Value.int IntKind.u64 0] 33)) (Obj.cells #[Value.float FloatKind.f64 0, Value.float FloatKind.f64 0] 67)
  have B1 := blk_new (w.alloc (Obj.cells #[Value.int IntKind.u64 0, Value.int IntKind.u64 0] 33)) (Obj.cells #[Value.float FloatKind.f64 0, Value.float FloatKind.f64 0] 67)
  have hW : Below w.heap.size w ((w.alloc (Obj.cells #[Value.int IntKind.u64 0, Value.int IntKind.u64 0] 33)).alloc (Obj.cells #[Value.float FloatKind.f64 0, Value.float FloatKind.f64 0] 67)) := ((Below.refl _ _).alloc (Nat.le_refl _) _).alloc (by simp) _
  simp only [World.size_alloc] at B1
  generalize ((w.alloc (Obj.cells #[Value.int IntKind.u64 0, Value.int IntKind.u64 0] 33)).alloc (Obj.cells #[Value.float FloatKind.f64 0, Value.float FloatKind.f64 0] 67)) = W2 at *
  refine (code_nil _).mono ?_
  rintro e w4 ⟨rfl, rfl⟩
  obtain ⟨k0, k1, k2, k3⟩ := blk2 B1
  have HB3 : Hid (w4.heap[w.heap.size]? = _) := B0
  have Hb6 : Hid (Below w.heap.size w w4) := hW
  clear B0 B1 hW
  go_wp2_with fail
  refine (box_any 0 0 _).mono ?_
  rintro e w5 ⟨rfl, hb7⟩
  obtain ⟨k10, k11, k12, k13⟩ := blk2 (blk_below HB3.out hb7)
  have Hb8 : Hid (Below w.heap.size w w5) := Hb6.out.trans (hb7.mono Hb6.out.size)
  clear hb7 HB3 Hb6 k0 k1 k2 k3
  go_wp2
  refine bodyPost_ret (v := .tuple #[.agg #[.int .u64 0, .int .u64 0], .int .i64 0]) (by simp [results, Tryz.results32, go_sem, k10, k11]) rfl ?_
  exact ⟨rfl, (Hb8.out.setCell (by simp) _).setCell (by simp) _⟩
end Go.Proofs.YtonhpkigoplmaaaGreatDoor
