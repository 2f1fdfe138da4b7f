/-
  encloselaw.box, same; plays at a Make.
-/
import Derived.Test.YtonhpkigoplmaaaGreatDoorRefM
namespace Go.Proofs.YtonhpkigoplmaaaGreatDoor
open Go.RowKit

theorem lawBox_any (x y : Int) (w : World) : Calls Tryz.prog 26 #[.agg #[.int .u64 x, .int .u64 y]] w fun e w' => e = .returned (.agg #[.int .u64 x, .int .u64 y]) ∧ Below w.heap.size w w' := by
  go_enter Tryz.func26, Tryz.ntmps26
  go_wp2
  exact bodyPost_ret (v := .agg #[.int .u64 x, .int .u64 y]) (by simp [results, Tryz.results26, go_sem]) rfl ⟨rfl, ((Below.refl _ _).alloc (Nat.le_refl _) _).alloc (by simp) _⟩

theorem same_eq (x y : Int) (w : World) : Calls Tryz.prog 28 #[.agg #[.int .u64 x, .int .u64 y], .agg #[.int .u64 x, .int .u64 y]] w fun e w' => e = .returned (.bool true) ∧ Below w.heap.size w w' := by
  go_enter Tryz.func28, Tryz.ntmps28
  go_wp2
  go_ret
  exact ⟨rfl, ((Below.refl _ _).alloc (Nat.le_refl _) _).alloc (by simp) _⟩

theorem blk9 {W : World} {g : Nat} {a0 a1 a2 a3 a4 a5 a6 a7 a8 : Value} {t : TypeId} (h : W.heap[g]? = some (.cells #[a0, a1, a2, a3, a4, a5, a6, a7, a8] t (0, 0))) :
    W.cell? ⟨g, 0, none⟩ = some a0 ∧ W.cell? ⟨g, 1, none⟩ = some a1 ∧ W.cell? ⟨g, 2, none⟩ = some a2 ∧ W.cell? ⟨g, 3, none⟩ = some a3 ∧ W.cell? ⟨g, 4, none⟩ = some a4 ∧ W.cell? ⟨g, 5, none⟩ = some a5 ∧ W.cell? ⟨g, 6, none⟩ = some a6 ∧ W.cell? ⟨g, 7, none⟩ = some a7 ∧ W.cell? ⟨g, 8, none⟩ = some a8 :=
  ⟨by simp [World.cell?, h], by simp [World.cell?, h], by simp [World.cell?, h], by simp [World.cell?, h], by simp [World.cell?, h], by simp [World.cell?, h], by simp [World.cell?, h], by simp [World.cell?, h], by simp [World.cell?, h]⟩

set_option maxHeartbeats 1000000 in
set_option maxRecDepth 100000 in
theorem plays_make (A : Nat → Addr) (a b : Int) (s : ByteArray) (xl xh : Nat) (yl yh : Int) (po : Option Addr) (pl pc : Nat) (w : World) (h1 : xl < 18446744073709551616) (h2 : xh < 18446744073709551616) (hS : Sents A w) :
    Calls Tryz.prog 18 #[.agg #[.int .i64 1, .int .i64 a, .int .i64 b, .string s, .int .u64 (xl : Int), .int .u64 (xh : Int), .int .u64 yl, .int .u64 yh, .slice po pl pc]] w fun e w' => e = .returned (.bool true) ∧ Below w.heap.size w w' := by
  have H1 : Hid (xl < 18446744073709551616) := h1
  have H2 : Hid (xh < 18446744073709551616) := h2
  clear h1 h2
  go_enter Tryz.func18, Tryz.ntmps18
  go_wp2_with fail
  have hW : Below w.heap.size w (w.alloc (Obj.cells #[Value.int IntKind.i64 1, Value.int IntKind.i64 a, Value.int IntKind.i64 b, Value.string s, Value.int IntKind.u64 ↑xl, Value.int IntKind.u64 ↑xh, Value.int IntKind.u64 yl, Value.int IntKind.u64 yh, Value.slice po pl pc] 31)) := (Below.refl _ _).alloc (Nat.le_refl _) _
  have hS1 := hS.below hW (Nat.le_refl _)
  refine (lawBox_any _ _ _).mono ?_
  rintro e w1 ⟨rfl, hb1⟩
  have B0 := blk_below (blk_new w (Obj.cells #[Value.int IntKind.i64 1, Value.int IntKind.i64 a, Value.int IntKind.i64 b, Value.string s, Value.int IntKind.u64 ↑xl, Value.int IntKind.u64 ↑xh, Value.int IntKind.u64 yl, Value.int IntKind.u64 yh, Value.slice po pl pc] 31)) hb1
  have HbA : Hid (Below w.heap.size w w1) := hW.trans (hb1.mono hW.size)
  have HS1 : Hid (Sents A w1) := hS1.below hb1 (Nat.le_refl _)
  have HB0 : Hid (w1.heap[w.heap.size]? = _) := B0
  clear hW hS hS1 hb1 B0
  go_wp2_with fail
  refine (plainMake_any A xl xh _ H1.out H2.out HS1.out).mono ?_
  rintro e w2 ⟨rfl, hb2⟩
  have B0 := blk_below HB0.out hb2
  have HbB : Hid (Below w.heap.size w w2) := HbA.out.trans (hb2.mono HbA.out.size)
  clear HbA HS1 HB0 hb2
  generalize hmk : makeN xl xh = r
  have HMK : Hid (makeN xl xh = r) := hmk
  clear hmk
  obtain ⟨rl, rh, rk⟩ := r
  dsimp only
  obtain ⟨-, -, -, -, k4, k5, -, -, -⟩ := blk9 B0
  have hz : w.heap.size < w2.heap.size := (Array.getElem?_eq_some_iff.1 B0).1
  go_wp2_with fail
  refine (refMake_any xl xh _ H1.out H2.out).mono ?_
  rintro e w3 ⟨rfl, hb3⟩
  rw [HMK.out]
  dsimp only
  have B3 := blk_below (blk_new w2 (Obj.cells #[Value.int IntKind.u64 rl, Value.int IntKind.u64 rh] 33)) hb3
  have HbC : Hid (Below w.heap.size w w3) := (HbB.out.alloc HbB.out.size _).trans (hb3.mono (by have := HbB.out.size; simp; omega))
  obtain ⟨j0, j1, -, -⟩ := blk2 B3
  have hz3 : w2.heap.size < w3.heap.size := (Array.getElem?_eq_some_iff.1 B3).1
  clear HbB hb3 B0 k4 k5 hz B3 H1 H2
  go_wp2_with fail
  refine (same_eq _ _ _).mono ?_
  rintro e w4 ⟨rfl, hb4⟩
  have hbD : Below w.heap.size w w4 := (HbC.out.alloc HbC.out.size _).trans (hb4.mono (by have := HbC.out.size; simp; omega))
  clear HbC hb4 j0 j1 hz3
  go_wp2
  go_ret
  exact ⟨rfl, hbD⟩
end Go.Proofs.YtonhpkigoplmaaaGreatDoor
