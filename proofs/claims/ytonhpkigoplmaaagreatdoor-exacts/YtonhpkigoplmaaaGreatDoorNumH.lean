/-
  encloseref.around.
-/
import Derived.Test.YtonhpkigoplmaaaGreatDoorNumG
import Derived.Test.YtonhpkigoplmaaaGreatDoorRefM
namespace Go.Proofs.YtonhpkigoplmaaaGreatDoor
open Go.RowKit

/-- What around gives: two ends and an error. -/
def aroundN (a b : Bool × Nat × Int) : Nat × Nat × Nat :=
  if (roundN a.1 a.2.1 a.2.2 (-1)).2 = true ∧ (roundN b.1 b.2.1 b.2.2 1).2 = true then ((roundN a.1 a.2.1 a.2.2 (-1)).1, (roundN b.1 b.2.1 b.2.2 1).1, 0) else (0, 0, 3)

/-- Numbers that around can take. -/
def Small (x : Bool × Nat × Int) : Prop := bl x.2.1 ≤ 100000 ∧ -200000 ≤ x.2.2 ∧ x.2.2 ≤ 200000

/-- A Num by its three parts. -/
def NumT (w : World) (v : Value) (x : Bool × Nat × Int) : Prop := NumV w v x.1 x.2.1 x.2.2

set_option maxHeartbeats 400000 in
theorem around_any (u v : Value) (x y : Bool × Nat × Int) (w : World) (hx : NumT w u x) (hy : NumT w v y) (sx : Small x) (sy : Small y) :
    Calls Tryz.prog 62 #[u, v] w fun e w' => e = .returned (.tuple #[.agg #[.int .u64 ((aroundN x y).1 : Int), .int .u64 ((aroundN x y).2.1 : Int)], .int .i64 ((aroundN x y).2.2 : Int)]) ∧ Below w.heap.size w w' := by
  obtain ⟨s1, n1, e1⟩ := x
  obtain ⟨s2, n2, e2⟩ := y
  obtain ⟨ao1, la1, ca1, rfl, hl1, hN1⟩ := hx
  obtain ⟨ao2, la2, ca2, rfl, hl2, hN2⟩ := hy
  simp only at hl1 hl2 hN1 hN2
  have HL1 : Hid (la1 = (digits n1).length) := hl1
  have HL2 : Hid (la2 = (digits n2).length) := hl2
  have HN1 : Hid (NatV w _ n1) := hN1
  have HN2 : Hid (NatV w _ n2) := hN2
  have S1 : Hid (bl n1 ≤ 100000 ∧ -200000 ≤ e1 ∧ e1 ≤ 200000) := sx
  have S2 : Hid (bl n2 ≤ 100000 ∧ -200000 ≤ e2 ∧ e2 ≤ 200000) := sy
  have HR : Hid (aroundN (s1, n1, e1) (s2, n2, e2) = if (roundN s1 n1 e1 (-1)).2 = true ∧ (roundN s2 n2 e2 1).2 = true then ((roundN s1 n1 e1 (-1)).1, (roundN s2 n2 e2 1).1, 0) else (0, 0, 3)) := rfl
  clear hl1 hl2 hN1 hN2 sx sy
  go_enter Tryz.func62, Tryz.ntmps62
  go_wp2_with fail
  have hW : Below w.heap.size w (((w.alloc (Obj.cells #[Value.bool s1, Value.slice ao1 la1 ca1, Value.int IntKind.i64 e1] 92)).alloc (Obj.cells #[Value.bool s2, Value.slice ao2 la2 ca2, Value.int IntKind.i64 e2] 92)).alloc (Obj.cells #[Value.int IntKind.u64 0, Value.int IntKind.u64 0] 28)) :=
    (((Below.refl _ _).alloc (Nat.le_refl _) _).alloc (by simp) _).alloc (by simp; omega) _
  have B2 := blk_new ((w.alloc (Obj.cells #[Value.bool s1, Value.slice ao1 la1 ca1, Value.int IntKind.i64 e1] 92)).alloc (Obj.cells #[Value.bool s2, Value.slice ao2 la2 ca2, Value.int IntKind.i64 e2] 92)) (Obj.cells #[Value.int IntKind.u64 0, Value.int IntKind.u64 0] 28)
  have B0 := blk_old (blk_old (blk_new w (Obj.cells #[Value.bool s1, Value.slice ao1 la1 ca1, Value.int IntKind.i64 e1] 92)) (Obj.cells #[Value.bool s2, Value.slice ao2 la2 ca2, Value.int IntKind.i64 e2] 92)) (Obj.cells #[Value.int IntKind.u64 0, Value.int IntKind.u64 0] 28)
  have B1 := blk_old (blk_new (w.alloc (Obj.cells #[Value.bool s1, Value.slice ao1 la1 ca1, Value.int IntKind.i64 e1] 92)) (Obj.cells #[Value.bool s2, Value.slice ao2 la2 ca2, Value.int IntKind.i64 e2] 92)) (Obj.cells #[Value.int IntKind.u64 0, Value.int IntKind.u64 0] 28)
  simp only [World.size_alloc] at B1 B2
  generalize (((w.alloc (Obj.cells #[Value.bool s1, Value.slice ao1 la1 ca1, Value.int IntKind.i64 e1] 92)).alloc (Obj.cells #[Value.bool s2, Value.slice ao2 la2 ca2, Value.int IntKind.i64 e2] 92)).alloc (Obj.cells #[Value.int IntKind.u64 0, Value.int IntKind.u64 0] 28)) = W at *
  refine (round_any _ s1 n1 e1 (-1) W ⟨_, _, _, rfl, HL1.out, HN1.out.below hW (Nat.le_refl _)⟩ (Or.inr rfl) S1.out.1 S1.out.2.1 S1.out.2.2).mono ?_
  rintro ev w1 ⟨rfl, hb1⟩
  have B0 := blk_below B0 hb1
  have B1 := blk_below B1 hb1
  have B2 := blk_below B2 hb1
  have hbA := hW.trans (hb1.mono hW.size)
  clear hW hb1 HL1 HN1 S1
  obtain ⟨k10, k11, k12, k13, k14, k15⟩ := blk3 B1
  generalize roundN s1 n1 e1 (-1) = r1 at *
  obtain ⟨a1, ok1⟩ := r1
  have hz : w.heap.size < w1.heap.size := (Array.getElem?_eq_some_iff.1 B0).1
  go_wp2_with fail
  refine (round_any _ s2 n2 e2 1 w1 ⟨_, _, _, rfl, HL2.out, HN2.out.below hbA (Nat.le_refl _)⟩ (Or.inl rfl) S2.out.1 S2.out.2.1 S2.out.2.2).mono ?_
  rintro ev w2 ⟨rfl, hb2⟩
  have B2 := blk_below B2 hb2
  have hbB := hbA.trans (hb2.mono hbA.size)
  clear hbA hb2 HL2 HN2 S2 B0 B1 k10 k11 k12 k13 k14 k15 hz
  generalize roundN s2 n2 e2 1 = r2 at *
  obtain ⟨a2, ok2⟩ := r2
  simp only at HR
  obtain ⟨j0, j1, j2, j3⟩ := blk2 B2
  have hz : w.heap.size + 1 + 1 < w2.heap.size := (Array.getElem?_eq_some_iff.1 B2).1
  have HB2 : Hid (w2.heap[w.heap.size + 1 + 1]? = _) := B2
  have HbB : Hid (Below w.heap.size w w2) := hbB
  clear B2 hbB
  cases ok1
  · have r : Hid (aroundN (s1, n1, e1) (s2, n2, e2) = (0, 0, 3)) := by show _ = _; rw [HR.out, if_neg (by simp)]
    clear HR
    go_wp2
    refine bodyPost_ret (v := .tuple #[.agg #[.int .u64 0, .int .u64 0], .int .i64 3]) (by simp [results, Tryz.results62, go_sem, j0, j1]) rfl ?_
    rw [r.out]
    exact ⟨rfl, (HbB.out.setCell (by simp; omega) _).setCell (by simp; omega) _⟩
  · cases ok2
    · have r : Hid (aroundN (s1, n1, e1) (s2, n2, e2) = (0, 0, 3)) := by show _ = _; rw [HR.out, if_neg (by simp)]
      clear HR
      go_wp2
      refine bodyPost_ret (v := .tuple #[.agg #[.int .u64 0, .int .u64 0], .int .i64 3]) (by simp [results, Tryz.results62, go_sem, j0, j1]) rfl ?_
      rw [r.out]
      exact ⟨rfl, (HbB.out.setCell (by simp; omega) _).setCell (by simp; omega) _⟩
    · have r : Hid (aroundN (s1, n1, e1) (s2, n2, e2) = (a1, a2, 0)) := by show _ = _; rw [HR.out, if_pos ⟨rfl, rfl⟩]
      clear HR
      go_wp2
      refine bodyPost_ret (v := .tuple #[.agg #[.int .u64 (a1 : Int), .int .u64 (a2 : Int)], .int .i64 0]) (by simp [results, Tryz.results62, go_sem, j0, j1]) rfl ?_
      rw [r.out]
      exact ⟨rfl, (HbB.out.setCell (by simp; omega) _).setCell (by simp; omega) _⟩
end Go.Proofs.YtonhpkigoplmaaaGreatDoor
