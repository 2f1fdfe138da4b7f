/-
  RefY, ErrO, ErrP, CodeO, With.
-/
import Derived.Test.YtonhpkigoplmaaaGreatDoorJ12
import Derived.Test.YtonhpkigoplmaaaGreatDoorJ04
import Derived.Test.YtonhpkigoplmaaaGreatDoorJ06
import Derived.Test.YtonhpkigoplmaaaGreatDoorJ11
namespace Go.Proofs.YtonhpkigoplmaaaGreatDoor
open Go.RowKit

/-- What encloseref.meet gives. -/
def meetLo (a1 b1 : Bool × Nat × Int) : Bool × Nat × Int := if lessT a1 b1 then b1 else a1
def meetHi (a2 b2 : Bool × Nat × Int) : Bool × Nat × Int := if lessT b2 a2 then b2 else a2
def meetT (a1 a2 b1 b2 : Bool × Nat × Int) : Nat × Nat × Nat := if lessT (meetHi a2 b2) (meetLo a1 b1) then (0, 0, 6) else ((aroundN (meetLo a1 b1) (meetHi a2 b2)).1, (aroundN (meetLo a1 b1) (meetHi a2 b2)).2.1, 0)

/-- The five boxes of meet. -/
structure MSt (w W : World) (a b l h : Array Value) : Prop where
  k0 : W.heap[w.heap.size]? = some (.cells a 98 (0, 0))
  k1 : W.heap[w.heap.size + 1]? = some (.cells b 98 (0, 0))
  k2 : W.heap[w.heap.size + 1 + 1]? = some (.cells #[.int .u64 0, .int .u64 0] 28 (0, 0))
  k3 : W.heap[w.heap.size + 1 + 1 + 1]? = some (.cells l 92 (0, 0))
  k4 : W.heap[w.heap.size + 1 + 1 + 1 + 1]? = some (.cells h 92 (0, 0))
  hb : Below w.heap.size w W

theorem MSt.below {w W W' : World} {a b l h : Array Value} (m : MSt w W a b l h) (hb : Below W.heap.size W W') : MSt w W' a b l h :=
  ⟨blk_below m.k0 hb, blk_below m.k1 hb, blk_below m.k2 hb, blk_below m.k3 hb, blk_below m.k4 hb, m.hb.trans (hb.mono m.hb.size)⟩

theorem MSt.lo {w W : World} {a b h : Array Value} {x y z x' y' z' : Value} (m : MSt w W a b #[x', y', z'] h) : MSt w (((W.setCell ⟨w.heap.size + 1 + 1 + 1, 0, none⟩ x).setCell ⟨w.heap.size + 1 + 1 + 1, 1, none⟩ y).setCell ⟨w.heap.size + 1 + 1 + 1, 2, none⟩ z) a b #[x, y, z] h :=
  ⟨blk_store3_ne m.k0 (by omega), blk_store3_ne m.k1 (by omega), blk_store3_ne m.k2 (by omega), blk_store3 m.k3, blk_store3_ne m.k4 (by omega), ((m.hb.setCell (by simp; omega) _).setCell (by simp; omega) _).setCell (by simp; omega) _⟩

theorem MSt.hi {w W : World} {a b l : Array Value} {x y z x' y' z' : Value} (m : MSt w W a b l #[x', y', z']) : MSt w (((W.setCell ⟨w.heap.size + 1 + 1 + 1 + 1, 0, none⟩ x).setCell ⟨w.heap.size + 1 + 1 + 1 + 1, 1, none⟩ y).setCell ⟨w.heap.size + 1 + 1 + 1 + 1, 2, none⟩ z) a b l #[x, y, z] :=
  ⟨blk_store3_ne m.k0 (by omega), blk_store3_ne m.k1 (by omega), blk_store3_ne m.k2 (by omega), blk_store3_ne m.k3 (by omega), blk_store3 m.k4, ((m.hb.setCell (by simp; omega) _).setCell (by simp; omega) _).setCell (by simp; omega) _⟩

set_option maxHeartbeats 1000000 in
set_option maxRecDepth 100000 in
theorem meet_any (va vb : Value) (a1 a2 b1 b2 : Bool × Nat × Int) (w : World) (ha : IvV w va a1 a2) (hb : IvV w vb b1 b2)
    (s1 : Small a1 ∧ (digits a1.2.1).length ≤ 400000) (s2 : Small a2 ∧ (digits a2.2.1).length ≤ 400000) (s3 : Small b1 ∧ (digits b1.2.1).length ≤ 400000) (s4 : Small b2 ∧ (digits b2.2.1).length ≤ 400000) :
    Calls Tryz.prog 64 #[va, vb] w fun e w' => e = .returned (.tuple #[.agg #[.int .u64 ((meetT a1 a2 b1 b2).1 : Int), .int .u64 ((meetT a1 a2 b1 b2).2.1 : Int)], .int .i64 ((meetT a1 a2 b1 b2).2.2 : Int), .string ⟨#[]⟩]) ∧ Below w.heap.size w w' := by
  obtain ⟨ao, la, ca, bo, lb, cb, rfl, hla, hlb, hna, hnb⟩ := ha
  obtain ⟨co, lc, cc, do_, ld, cd, rfl, hlc, hld, hnc, hnd⟩ := hb
  have less : ∀ (x y : Bool × Nat × Int) (u v : Value) (w' : World), (Small x ∧ (digits x.2.1).length ≤ 400000) → (Small y ∧ (digits y.2.1).length ≤ 400000) → NumV w' u x.1 x.2.1 x.2.2 → NumV w' v y.1 y.2.1 y.2.2 → Calls Tryz.prog 58 #[u, v] w' fun ev w'' => ev = .returned (.bool (lessT x y)) ∧ Below w'.heap.size w' w'' := by
    intro x y u v w' sx sy hu hv
    obtain ⟨⟨_, p2, p3⟩, p4⟩ := sx
    obtain ⟨⟨_, q2, q3⟩, q4⟩ := sy
    exact less_any _ _ _ _ _ _ _ _ w' hu hv p4 q4 (by omega) (by omega) (by omega) (by omega)
  have NA : ∀ w', Below w.heap.size w w' → NumV w' (.agg #[.bool a1.1, .slice ao la ca, .int .i64 a1.2.2]) a1.1 a1.2.1 a1.2.2 ∧ NumV w' (.agg #[.bool a2.1, .slice bo lb cb, .int .i64 a2.2.2]) a2.1 a2.2.1 a2.2.2 ∧ NumV w' (.agg #[.bool b1.1, .slice co lc cc, .int .i64 b1.2.2]) b1.1 b1.2.1 b1.2.2 ∧ NumV w' (.agg #[.bool b2.1, .slice do_ ld cd, .int .i64 b2.2.2]) b2.1 b2.2.1 b2.2.2 := fun w' hb => ⟨⟨_, _, _, rfl, hla, hna.below hb (Nat.le_refl _)⟩, ⟨_, _, _, rfl, hlb, hnb.below hb (Nat.le_refl _)⟩, ⟨_, _, _, rfl, hlc, hnc.below hb (Nat.le_refl _)⟩, ⟨_, _, _, rfl, hld, hnd.below hb (Nat.le_refl _)⟩⟩
  have C1 : Hid (∀ w', Below w.heap.size w w' → Calls Tryz.prog 58 #[.agg #[.bool a1.1, .slice ao la ca, .int .i64 a1.2.2], .agg #[.bool b1.1, .slice co lc cc, .int .i64 b1.2.2]] w' fun ev w'' => ev = .returned (.bool (lessT a1 b1)) ∧ Below w'.heap.size w' w'') := fun w' hb => less _ _ _ _ w' s1 s3 (NA w' hb).1 (NA w' hb).2.2.1
  have C2 : Hid (∀ w', Below w.heap.size w w' → Calls Tryz.prog 58 #[.agg #[.bool b2.1, .slice do_ ld cd, .int .i64 b2.2.2], .agg #[.bool a2.1, .slice bo lb cb, .int .i64 a2.2.2]] w' fun ev w'' => ev = .returned (.bool (lessT b2 a2)) ∧ Below w'.heap.size w' w'') := fun w' hb => less _ _ _ _ w' s4 s2 (NA w' hb).2.2.2 (NA w' hb).2.1
  have D00 : Hid (∀ w', Below w.heap.size w w' → Calls Tryz.prog 58 #[.agg #[.bool a2.1, .slice bo lb cb, .int .i64 a2.2.2], .agg #[.bool a1.1, .slice ao la ca, .int .i64 a1.2.2]] w' fun ev w'' => ev = .returned (.bool (lessT a2 a1)) ∧ Below w'.heap.size w' w'') := fun w' hb => less _ _ _ _ w' s2 s1 (NA w' hb).2.1 (NA w' hb).1
  have R00 : Hid (∀ w', Below w.heap.size w w' → Calls Tryz.prog 62 #[.agg #[.bool a1.1, .slice ao la ca, .int .i64 a1.2.2], .agg #[.bool a2.1, .slice bo lb cb, .int .i64 a2.2.2]] w' fun e w'' => e = .returned (.tuple #[.agg #[.int .u64 ((aroundN a1 a2).1 : Int), .int .u64 ((aroundN a1 a2).2.1 : Int)], .int .i64 ((aroundN a1 a2).2.2 : Int)]) ∧ Below w'.heap.size w' w'') := fun w' hb => around_any _ _ _ _ w' (NA w' hb).1 (NA w' hb).2.1 s1.1 s2.1
  have D01 : Hid (∀ w', Below w.heap.size w w' → Calls Tryz.prog 58 #[.agg #[.bool a2.1, .slice bo lb cb, .int .i64 a2.2.2], .agg #[.bool b1.1, .slice co lc cc, .int .i64 b1.2.2]] w' fun ev w'' => ev = .returned (.bool (lessT a2 b1)) ∧ Below w'.heap.size w' w'') := fun w' hb => less _ _ _ _ w' s2 s3 (NA w' hb).2.1 (NA w' hb).2.2.1
  have R10 : Hid (∀ w', Below w.heap.size w w' → Calls Tryz.prog 62 #[.agg #[.bool b1.1, .slice co lc cc, .int .i64 b1.2.2], .agg #[.bool a2.1, .slice bo lb cb, .int .i64 a2.2.2]] w' fun e w'' => e = .returned (.tuple #[.agg #[.int .u64 ((aroundN b1 a2).1 : Int), .int .u64 ((aroundN b1 a2).2.1 : Int)], .int .i64 ((aroundN b1 a2).2.2 : Int)]) ∧ Below w'.heap.size w' w'') := fun w' hb => around_any _ _ _ _ w' (NA w' hb).2.2.1 (NA w' hb).2.1 s3.1 s2.1
  have D10 : Hid (∀ w', Below w.heap.size w w' → Calls Tryz.prog 58 #[.agg #[.bool b2.1, .slice do_ ld cd, .int .i64 b2.2.2], .agg #[.bool a1.1, .slice ao la ca, .int .i64 a1.2.2]] w' fun ev w'' => ev = .returned (.bool (lessT b2 a1)) ∧ Below w'.heap.size w' w'') := fun w' hb => less _ _ _ _ w' s4 s1 (NA w' hb).2.2.2 (NA w' hb).1
  have R01 : Hid (∀ w', Below w.heap.size w w' → Calls Tryz.prog 62 #[.agg #[.bool a1.1, .slice ao la ca, .int .i64 a1.2.2], .agg #[.bool b2.1, .slice do_ ld cd, .int .i64 b2.2.2]] w' fun e w'' => e = .returned (.tuple #[.agg #[.int .u64 ((aroundN a1 b2).1 : Int), .int .u64 ((aroundN a1 b2).2.1 : Int)], .int .i64 ((aroundN a1 b2).2.2 : Int)]) ∧ Below w'.heap.size w' w'') := fun w' hb => around_any _ _ _ _ w' (NA w' hb).1 (NA w' hb).2.2.2 s1.1 s4.1
  have D11 : Hid (∀ w', Below w.heap.size w w' → Calls Tryz.prog 58 #[.agg #[.bool b2.1, .slice do_ ld cd, .int .i64 b2.2.2], .agg #[.bool b1.1, .slice co lc cc, .int .i64 b1.2.2]] w' fun ev w'' => ev = .returned (.bool (lessT b2 b1)) ∧ Below w'.heap.size w' w'') := fun w' hb => less _ _ _ _ w' s4 s3 (NA w' hb).2.2.2 (NA w' hb).2.2.1
  have R11 : Hid (∀ w', Below w.heap.size w w' → Calls Tryz.prog 62 #[.agg #[.bool b1.1, .slice co lc cc, .int .i64 b1.2.2], .agg #[.bool b2.1, .slice do_ ld cd, .int .i64 b2.2.2]] w' fun e w'' => e = .returned (.tuple #[.agg #[.int .u64 ((aroundN b1 b2).1 : Int), .int .u64 ((aroundN b1 b2).2.1 : Int)], .int .i64 ((aroundN b1 b2).2.2 : Int)]) ∧ Below w'.heap.size w' w'') := fun w' hb => around_any _ _ _ _ w' (NA w' hb).2.2.1 (NA w' hb).2.2.2 s3.1 s4.1
  have MT : Hid (meetT a1 a2 b1 b2 = if lessT (meetHi a2 b2) (meetLo a1 b1) then (0, 0, 6) else ((aroundN (meetLo a1 b1) (meetHi a2 b2)).1, (aroundN (meetLo a1 b1) (meetHi a2 b2)).2.1, 0)) := rfl
  clear less NA s1 s2 s3 s4 hla hlb hlc hld hna hnb hnc hnd
  go_enter Tryz.func64, Tryz.ntmps64
  go_wp2_with fail
  have m0 : Hid (MSt w (((((w.alloc (Obj.cells #[.bool a1.1, .slice ao la ca, .int .i64 a1.2.2, .bool a2.1, .slice bo lb cb, .int .i64 a2.2.2] 98)).alloc (Obj.cells #[.bool b1.1, .slice co lc cc, .int .i64 b1.2.2, .bool b2.1, .slice do_ ld cd, .int .i64 b2.2.2] 98)).alloc (Obj.cells #[.int .u64 0, .int .u64 0] 28)).alloc (Obj.cells #[.bool a1.1, .slice ao la ca, .int .i64 a1.2.2] 92)).alloc (Obj.cells #[.bool a2.1, .slice bo lb cb, .int .i64 a2.2.2] 92)) #[.bool a1.1, .slice ao la ca, .int .i64 a1.2.2, .bool a2.1, .slice bo lb cb, .int .i64 a2.2.2] #[.bool b1.1, .slice co lc cc, .int .i64 b1.2.2, .bool b2.1, .slice do_ ld cd, .int .i64 b2.2.2] #[.bool a1.1, .slice ao la ca, .int .i64 a1.2.2] #[.bool a2.1, .slice bo lb cb, .int .i64 a2.2.2]) := by
    have B0 := blk_old (blk_old (blk_old (blk_old (blk_new w (Obj.cells #[.bool a1.1, .slice ao la ca, .int .i64 a1.2.2, .bool a2.1, .slice bo lb cb, .int .i64 a2.2.2] 98)) (Obj.cells #[.bool b1.1, .slice co lc cc, .int .i64 b1.2.2, .bool b2.1, .slice do_ ld cd, .int .i64 b2.2.2] 98)) (Obj.cells #[.int .u64 0, .int .u64 0] 28)) (Obj.cells #[.bool a1.1, .slice ao la ca, .int .i64 a1.2.2] 92)) (Obj.cells #[.bool a2.1, .slice bo lb cb, .int .i64 a2.2.2] 92)
    have B1 := blk_old (blk_old (blk_old (blk_new (w.alloc (Obj.cells #[.bool a1.1, .slice ao la ca, .int .i64 a1.2.2, .bool a2.1, .slice bo lb cb, .int .i64 a2.2.2] 98)) (Obj.cells #[.bool b1.1, .slice co lc cc, .int .i64 b1.2.2, .bool b2.1, .slice do_ ld cd, .int .i64 b2.2.2] 98)) (Obj.cells #[.int .u64 0, .int .u64 0] 28)) (Obj.cells #[.bool a1.1, .slice ao la ca, .int .i64 a1.2.2] 92)) (Obj.cells #[.bool a2.1, .slice bo lb cb, .int .i64 a2.2.2] 92)
    have B2 := blk_old (blk_old (blk_new ((w.alloc (Obj.cells #[.bool a1.1, .slice ao la ca, .int .i64 a1.2.2, .bool a2.1, .slice bo lb cb, .int .i64 a2.2.2] 98)).alloc (Obj.cells #[.bool b1.1, .slice co lc cc, .int .i64 b1.2.2, .bool b2.1, .slice do_ ld cd, .int .i64 b2.2.2] 98)) (Obj.cells #[.int .u64 0, .int .u64 0] 28)) (Obj.cells #[.bool a1.1, .slice ao la ca, .int .i64 a1.2.2] 92)) (Obj.cells #[.bool a2.1, .slice bo lb cb, .int .i64 a2.2.2] 92)
    have B3 := blk_old (blk_new (((w.alloc (Obj.cells #[.bool a1.1, .slice ao la ca, .int .i64 a1.2.2, .bool a2.1, .slice bo lb cb, .int .i64 a2.2.2] 98)).alloc (Obj.cells #[.bool b1.1, .slice co lc cc, .int .i64 b1.2.2, .bool b2.1, .slice do_ ld cd, .int .i64 b2.2.2] 98)).alloc (Obj.cells #[.int .u64 0, .int .u64 0] 28)) (Obj.cells #[.bool a1.1, .slice ao la ca, .int .i64 a1.2.2] 92)) (Obj.cells #[.bool a2.1, .slice bo lb cb, .int .i64 a2.2.2] 92)
    have B4 := blk_new ((((w.alloc (Obj.cells #[.bool a1.1, .slice ao la ca, .int .i64 a1.2.2, .bool a2.1, .slice bo lb cb, .int .i64 a2.2.2] 98)).alloc (Obj.cells #[.bool b1.1, .slice co lc cc, .int .i64 b1.2.2, .bool b2.1, .slice do_ ld cd, .int .i64 b2.2.2] 98)).alloc (Obj.cells #[.int .u64 0, .int .u64 0] 28)).alloc (Obj.cells #[.bool a1.1, .slice ao la ca, .int .i64 a1.2.2] 92)) (Obj.cells #[.bool a2.1, .slice bo lb cb, .int .i64 a2.2.2] 92)
    simp only [World.size_alloc] at B1 B2 B3 B4
    exact ⟨B0, B1, B2, B3, B4, (((((Below.refl _ _).alloc (Nat.le_refl _) _).alloc (by simp) _).alloc (by simp; omega) _).alloc (by simp; omega) _).alloc (by simp; omega) _⟩
  generalize (((((w.alloc (Obj.cells #[.bool a1.1, .slice ao la ca, .int .i64 a1.2.2, .bool a2.1, .slice bo lb cb, .int .i64 a2.2.2] 98)).alloc (Obj.cells #[.bool b1.1, .slice co lc cc, .int .i64 b1.2.2, .bool b2.1, .slice do_ ld cd, .int .i64 b2.2.2] 98)).alloc (Obj.cells #[.int .u64 0, .int .u64 0] 28)).alloc (Obj.cells #[.bool a1.1, .slice ao la ca, .int .i64 a1.2.2] 92)).alloc (Obj.cells #[.bool a2.1, .slice bo lb cb, .int .i64 a2.2.2] 92)) = W2 at *
  refine Calls.mono (C1.out _ m0.out.hb) ?_
  rintro ev w1 ⟨rfl, hb1⟩
  have m1 : Hid (MSt w w1 _ _ _ _) := m0.out.below hb1
  clear hb1 m0 C1
  obtain ⟨x0, x1, x2, x3, x4, x5, -, -, -, -, -, -⟩ := blk6 m1.out.k0
  obtain ⟨y0, y1, y2, y3, y4, y5, -, -, -, -, -, -⟩ := blk6 m1.out.k1
  obtain ⟨l0, l1, l2, l3, l4, l5⟩ := blk3 m1.out.k3
  obtain ⟨h0, h1, h2, h3, h4, h5⟩ := blk3 m1.out.k4
  cases t1 : lessT a1 b1
  · have ML : Hid (meetLo a1 b1 = a1) := by show _ = _; unfold meetLo; rw [t1]; rfl
    clear t1
    go_wp2_with fail
    refine Calls.mono (C2.out _ m1.out.hb) ?_
    rintro ev w2 ⟨rfl, hb2⟩
    have m2 : Hid (MSt w w2 _ _ _ _) := m1.out.below hb2
    clear hb2 m1 C2 x0 x1 x2 x3 x4 x5 y0 y1 y2 y3 y4 y5 l0 l1 l2 l3 l4 l5 h0 h1 h2 h3 h4 h5
    obtain ⟨x0, x1, x2, x3, x4, x5, -, -, -, -, -, -⟩ := blk6 m2.out.k0
    obtain ⟨y0, y1, y2, y3, y4, y5, -, -, -, -, -, -⟩ := blk6 m2.out.k1
    obtain ⟨l0, l1, l2, l3, l4, l5⟩ := blk3 m2.out.k3
    obtain ⟨h0, h1, h2, h3, h4, h5⟩ := blk3 m2.out.k4
    cases t2 : lessT b2 a2
    · have MH : Hid (meetHi a2 b2 = a2) := by show _ = _; unfold meetHi; rw [t2]; rfl
      clear t2
      have F := MT.out
      rw [ML.out, MH.out] at F
      have FT : Hid (meetT a1 a2 b1 b2 = _) := F
      clear F
      go_wp2_with fail
      refine Calls.mono (D00.out _ m2.out.hb) ?_
      rintro ev w4 ⟨rfl, hb4⟩
      have m4 : Hid (MSt w w4 _ _ _ _) := m2.out.below hb4
      clear hb4 m2 x0 x1 x2 x3 x4 x5 y0 y1 y2 y3 y4 y5 l0 l1 l2 l3 l4 l5 h0 h1 h2 h3 h4 h5
      obtain ⟨x0, x1, x2, x3, x4, x5, -, -, -, -, -, -⟩ := blk6 m4.out.k0
      obtain ⟨y0, y1, y2, y3, y4, y5, -, -, -, -, -, -⟩ := blk6 m4.out.k1
      obtain ⟨l0, l1, l2, l3, l4, l5⟩ := blk3 m4.out.k3
      obtain ⟨h0, h1, h2, h3, h4, h5⟩ := blk3 m4.out.k4
      obtain ⟨z0, z1, z2, z3⟩ := blk2 m4.out.k2
      cases t3 : lessT a2 a1
      · have G := FT.out
        rw [t3, if_neg Bool.false_ne_true] at G
        have GT : Hid (meetT a1 a2 b1 b2 = _) := G
        clear G FT t3
        go_wp2_with fail
        refine Calls.mono (R00.out _ m4.out.hb) ?_
        rintro ev w6 ⟨rfl, hb6⟩
        have m6 : Hid (MSt w w6 _ _ _ _) := m4.out.below hb6
        clear hb6 m4 x0 x1 x2 x3 x4 x5 y0 y1 y2 y3 y4 y5 l0 l1 l2 l3 l4 l5 h0 h1 h2 h3 h4 h5 z0 z1 z2 z3
        obtain ⟨z0, z1, z2, z3⟩ := blk2 m6.out.k2
        have hlt := lt_of_row m6.out.k2
        go_wp2_with fail
        obtain ⟨p0, p1, -, -⟩ := blk2 (blk_old (blk_store2 (a := .int .u64 ((aroundN a1 a2).1 : Int)) (b := .int .u64 ((aroundN a1 a2).2.1 : Int)) m6.out.k2) (Obj.cells #[.int .u64 ((aroundN a1 a2).1 : Int), .int .u64 ((aroundN a1 a2).2.1 : Int)] 28))
        refine bodyPost_ret (v := .tuple #[.agg #[.int .u64 ((aroundN a1 a2).1 : Int), .int .u64 ((aroundN a1 a2).2.1 : Int)], .int .i64 0, .string ⟨#[]⟩]) (by simp [results, Tryz.results64, go_sem, p0, p1]) rfl ?_
        rw [GT.out]
        exact ⟨rfl, ((m6.out.hb.setCell (by simp; omega) _).setCell (by simp; omega) _).alloc (by have := m6.out.hb.size; simp; omega) _⟩
      · have G := FT.out
        rw [t3, if_pos rfl] at G
        have GT : Hid (meetT a1 a2 b1 b2 = _) := G
        clear G FT t3
        go_wp2_with fail
        refine bodyPost_ret (v := .tuple #[.agg #[.int .u64 0, .int .u64 0], .int .i64 6, .string ⟨#[]⟩]) (by simp [results, Tryz.results64, go_sem, z0, z1]) rfl ?_
        rw [GT.out]
        exact ⟨rfl, (m4.out.hb.setCell (by simp; omega) _).setCell (by simp; omega) _⟩
    · have MH : Hid (meetHi a2 b2 = b2) := by show _ = _; unfold meetHi; rw [t2]; rfl
      clear t2
      have F := MT.out
      rw [ML.out, MH.out] at F
      have FT : Hid (meetT a1 a2 b1 b2 = _) := F
      clear F
      go_wp2_with fail
      have m2' : Hid (MSt w (((w2.setCell ⟨w.heap.size + 1 + 1 + 1 + 1, 0, none⟩ (.bool b2.1)).setCell ⟨w.heap.size + 1 + 1 + 1 + 1, 1, none⟩ (.slice do_ ld cd)).setCell ⟨w.heap.size + 1 + 1 + 1 + 1, 2, none⟩ (.int .i64 b2.2.2)) _ _ _ #[.bool b2.1, .slice do_ ld cd, .int .i64 b2.2.2]) := m2.out.hi
      generalize (((w2.setCell ⟨w.heap.size + 1 + 1 + 1 + 1, 0, none⟩ (.bool b2.1)).setCell ⟨w.heap.size + 1 + 1 + 1 + 1, 1, none⟩ (.slice do_ ld cd)).setCell ⟨w.heap.size + 1 + 1 + 1 + 1, 2, none⟩ (.int .i64 b2.2.2)) = W5 at *
      refine Calls.mono (D10.out _ m2'.out.hb) ?_
      rintro ev w4 ⟨rfl, hb4⟩
      have m4 : Hid (MSt w w4 _ _ _ _) := m2'.out.below hb4
      clear m2'
      clear hb4 m2 x0 x1 x2 x3 x4 x5 y0 y1 y2 y3 y4 y5 l0 l1 l2 l3 l4 l5 h0 h1 h2 h3 h4 h5
      obtain ⟨x0, x1, x2, x3, x4, x5, -, -, -, -, -, -⟩ := blk6 m4.out.k0
      obtain ⟨y0, y1, y2, y3, y4, y5, -, -, -, -, -, -⟩ := blk6 m4.out.k1
      obtain ⟨l0, l1, l2, l3, l4, l5⟩ := blk3 m4.out.k3
      obtain ⟨h0, h1, h2, h3, h4, h5⟩ := blk3 m4.out.k4
      obtain ⟨z0, z1, z2, z3⟩ := blk2 m4.out.k2
      cases t3 : lessT b2 a1
      · have G := FT.out
        rw [t3, if_neg Bool.false_ne_true] at G
        have GT : Hid (meetT a1 a2 b1 b2 = _) := G
        clear G FT t3
        go_wp2_with fail
        refine Calls.mono (R01.out _ m4.out.hb) ?_
        rintro ev w6 ⟨rfl, hb6⟩
        have m6 : Hid (MSt w w6 _ _ _ _) := m4.out.below hb6
        clear hb6 m4 x0 x1 x2 x3 x4 x5 y0 y1 y2 y3 y4 y5 l0 l1 l2 l3 l4 l5 h0 h1 h2 h3 h4 h5 z0 z1 z2 z3
        obtain ⟨z0, z1, z2, z3⟩ := blk2 m6.out.k2
        have hlt := lt_of_row m6.out.k2
        go_wp2_with fail
        obtain ⟨p0, p1, -, -⟩ := blk2 (blk_old (blk_store2 (a := .int .u64 ((aroundN a1 b2).1 : Int)) (b := .int .u64 ((aroundN a1 b2).2.1 : Int)) m6.out.k2) (Obj.cells #[.int .u64 ((aroundN a1 b2).1 : Int), .int .u64 ((aroundN a1 b2).2.1 : Int)] 28))
        refine bodyPost_ret (v := .tuple #[.agg #[.int .u64 ((aroundN a1 b2).1 : Int), .int .u64 ((aroundN a1 b2).2.1 : Int)], .int .i64 0, .string ⟨#[]⟩]) (by simp [results, Tryz.results64, go_sem, p0, p1]) rfl ?_
        rw [GT.out]
        exact ⟨rfl, ((m6.out.hb.setCell (by simp; omega) _).setCell (by simp; omega) _).alloc (by have := m6.out.hb.size; simp; omega) _⟩
      · have G := FT.out
        rw [t3, if_pos rfl] at G
        have GT : Hid (meetT a1 a2 b1 b2 = _) := G
        clear G FT t3
        go_wp2_with fail
        refine bodyPost_ret (v := .tuple #[.agg #[.int .u64 0, .int .u64 0], .int .i64 6, .string ⟨#[]⟩]) (by simp [results, Tryz.results64, go_sem, z0, z1]) rfl ?_
        rw [GT.out]
        exact ⟨rfl, (m4.out.hb.setCell (by simp; omega) _).setCell (by simp; omega) _⟩
  · have ML : Hid (meetLo a1 b1 = b1) := by show _ = _; unfold meetLo; rw [t1]; rfl
    clear t1
    go_wp2_with fail
    have m1' : Hid (MSt w (((w1.setCell ⟨w.heap.size + 1 + 1 + 1, 0, none⟩ (.bool b1.1)).setCell ⟨w.heap.size + 1 + 1 + 1, 1, none⟩ (.slice co lc cc)).setCell ⟨w.heap.size + 1 + 1 + 1, 2, none⟩ (.int .i64 b1.2.2)) _ _ #[.bool b1.1, .slice co lc cc, .int .i64 b1.2.2] _) := m1.out.lo
    generalize (((w1.setCell ⟨w.heap.size + 1 + 1 + 1, 0, none⟩ (.bool b1.1)).setCell ⟨w.heap.size + 1 + 1 + 1, 1, none⟩ (.slice co lc cc)).setCell ⟨w.heap.size + 1 + 1 + 1, 2, none⟩ (.int .i64 b1.2.2)) = W3 at *
    refine Calls.mono (C2.out _ m1'.out.hb) ?_
    rintro ev w2 ⟨rfl, hb2⟩
    have m2 : Hid (MSt w w2 _ _ _ _) := m1'.out.below hb2
    clear m1'
    clear hb2 m1 C2 x0 x1 x2 x3 x4 x5 y0 y1 y2 y3 y4 y5 l0 l1 l2 l3 l4 l5 h0 h1 h2 h3 h4 h5
    obtain ⟨x0, x1, x2, x3, x4, x5, -, -, -, -, -, -⟩ := blk6 m2.out.k0
    obtain ⟨y0, y1, y2, y3, y4, y5, -, -, -, -, -, -⟩ := blk6 m2.out.k1
    obtain ⟨l0, l1, l2, l3, l4, l5⟩ := blk3 m2.out.k3
    obtain ⟨h0, h1, h2, h3, h4, h5⟩ := blk3 m2.out.k4
    cases t2 : lessT b2 a2
    · have MH : Hid (meetHi a2 b2 = a2) := by show _ = _; unfold meetHi; rw [t2]; rfl
      clear t2
      have F := MT.out
      rw [ML.out, MH.out] at F
      have FT : Hid (meetT a1 a2 b1 b2 = _) := F
      clear F
      go_wp2_with fail
      refine Calls.mono (D01.out _ m2.out.hb) ?_
      rintro ev w4 ⟨rfl, hb4⟩
      have m4 : Hid (MSt w w4 _ _ _ _) := m2.out.below hb4
      clear hb4 m2 x0 x1 x2 x3 x4 x5 y0 y1 y2 y3 y4 y5 l0 l1 l2 l3 l4 l5 h0 h1 h2 h3 h4 h5
      obtain ⟨x0, x1, x2, x3, x4, x5, -, -, -, -, -, -⟩ := blk6 m4.out.k0
      obtain ⟨y0, y1, y2, y3, y4, y5, -, -, -, -, -, -⟩ := blk6 m4.out.k1
      obtain ⟨l0, l1, l2, l3, l4, l5⟩ := blk3 m4.out.k3
      obtain ⟨h0, h1, h2, h3, h4, h5⟩ := blk3 m4.out.k4
      obtain ⟨z0, z1, z2, z3⟩ := blk2 m4.out.k2
      cases t3 : lessT a2 b1
      · have G := FT.out
        rw [t3, if_neg Bool.false_ne_true] at G
        have GT : Hid (meetT a1 a2 b1 b2 = _) := G
        clear G FT t3
        go_wp2_with fail
        refine Calls.mono (R10.out _ m4.out.hb) ?_
        rintro ev w6 ⟨rfl, hb6⟩
        have m6 : Hid (MSt w w6 _ _ _ _) := m4.out.below hb6
        clear hb6 m4 x0 x1 x2 x3 x4 x5 y0 y1 y2 y3 y4 y5 l0 l1 l2 l3 l4 l5 h0 h1 h2 h3 h4 h5 z0 z1 z2 z3
        obtain ⟨z0, z1, z2, z3⟩ := blk2 m6.out.k2
        have hlt := lt_of_row m6.out.k2
        go_wp2_with fail
        obtain ⟨p0, p1, -, -⟩ := blk2 (blk_old (blk_store2 (a := .int .u64 ((aroundN b1 a2).1 : Int)) (b := .int .u64 ((aroundN b1 a2).2.1 : Int)) m6.out.k2) (Obj.cells #[.int .u64 ((aroundN b1 a2).1 : Int), .int .u64 ((aroundN b1 a2).2.1 : Int)] 28))
        refine bodyPost_ret (v := .tuple #[.agg #[.int .u64 ((aroundN b1 a2).1 : Int), .int .u64 ((aroundN b1 a2).2.1 : Int)], .int .i64 0, .string ⟨#[]⟩]) (by simp [results, Tryz.results64, go_sem, p0, p1]) rfl ?_
        rw [GT.out]
        exact ⟨rfl, ((m6.out.hb.setCell (by simp; omega) _).setCell (by simp; omega) _).alloc (by have := m6.out.hb.size; simp; omega) _⟩
      · have G := FT.out
        rw [t3, if_pos rfl] at G
        have GT : Hid (meetT a1 a2 b1 b2 = _) := G
        clear G FT t3
        go_wp2_with fail
        refine bodyPost_ret (v := .tuple #[.agg #[.int .u64 0, .int .u64 0], .int .i64 6, .string ⟨#[]⟩]) (by simp [results, Tryz.results64, go_sem, z0, z1]) rfl ?_
        rw [GT.out]
        exact ⟨rfl, (m4.out.hb.setCell (by simp; omega) _).setCell (by simp; omega) _⟩
    · have MH : Hid (meetHi a2 b2 = b2) := by show _ = _; unfold meetHi; rw [t2]; rfl
      clear t2
      have F := MT.out
      rw [ML.out, MH.out] at F
      have FT : Hid (meetT a1 a2 b1 b2 = _) := F
      clear F
      go_wp2_with fail
      have m2' : Hid (MSt w (((w2.setCell ⟨w.heap.size + 1 + 1 + 1 + 1, 0, none⟩ (.bool b2.1)).setCell ⟨w.heap.size + 1 + 1 + 1 + 1, 1, none⟩ (.slice do_ ld cd)).setCell ⟨w.heap.size + 1 + 1 + 1 + 1, 2, none⟩ (.int .i64 b2.2.2)) _ _ _ #[.bool b2.1, .slice do_ ld cd, .int .i64 b2.2.2]) := m2.out.hi
      generalize (((w2.setCell ⟨w.heap.size + 1 + 1 + 1 + 1, 0, none⟩ (.bool b2.1)).setCell ⟨w.heap.size + 1 + 1 + 1 + 1, 1, none⟩ (.slice do_ ld cd)).setCell ⟨w.heap.size + 1 + 1 + 1 + 1, 2, none⟩ (.int .i64 b2.2.2)) = W5 at *
      refine Calls.mono (D11.out _ m2'.out.hb) ?_
      rintro ev w4 ⟨rfl, hb4⟩
      have m4 : Hid (MSt w w4 _ _ _ _) := m2'.out.below hb4
      clear m2'
      clear hb4 m2 x0 x1 x2 x3 x4 x5 y0 y1 y2 y3 y4 y5 l0 l1 l2 l3 l4 l5 h0 h1 h2 h3 h4 h5
      obtain ⟨x0, x1, x2, x3, x4, x5, -, -, -, -, -, -⟩ := blk6 m4.out.k0
      obtain ⟨y0, y1, y2, y3, y4, y5, -, -, -, -, -, -⟩ := blk6 m4.out.k1
      obtain ⟨l0, l1, l2, l3, l4, l5⟩ := blk3 m4.out.k3
      obtain ⟨h0, h1, h2, h3, h4, h5⟩ := blk3 m4.out.k4
      obtain ⟨z0, z1, z2, z3⟩ := blk2 m4.out.k2
      cases t3 : lessT b2 b1
      · have G := FT.out
        rw [t3, if_neg Bool.false_ne_true] at G
        have GT : Hid (meetT a1 a2 b1 b2 = _) := G
        clear G FT t3
        go_wp2_with fail
        refine Calls.mono (R11.out _ m4.out.hb) ?_
        rintro ev w6 ⟨rfl, hb6⟩
        have m6 : Hid (MSt w w6 _ _ _ _) := m4.out.below hb6
        clear hb6 m4 x0 x1 x2 x3 x4 x5 y0 y1 y2 y3 y4 y5 l0 l1 l2 l3 l4 l5 h0 h1 h2 h3 h4 h5 z0 z1 z2 z3
        obtain ⟨z0, z1, z2, z3⟩ := blk2 m6.out.k2
        have hlt := lt_of_row m6.out.k2
        go_wp2_with fail
        obtain ⟨p0, p1, -, -⟩ := blk2 (blk_old (blk_store2 (a := .int .u64 ((aroundN b1 b2).1 : Int)) (b := .int .u64 ((aroundN b1 b2).2.1 : Int)) m6.out.k2) (Obj.cells #[.int .u64 ((aroundN b1 b2).1 : Int), .int .u64 ((aroundN b1 b2).2.1 : Int)] 28))
        refine bodyPost_ret (v := .tuple #[.agg #[.int .u64 ((aroundN b1 b2).1 : Int), .int .u64 ((aroundN b1 b2).2.1 : Int)], .int .i64 0, .string ⟨#[]⟩]) (by simp [results, Tryz.results64, go_sem, p0, p1]) rfl ?_
        rw [GT.out]
        exact ⟨rfl, ((m6.out.hb.setCell (by simp; omega) _).setCell (by simp; omega) _).alloc (by have := m6.out.hb.size; simp; omega) _⟩
      · have G := FT.out
        rw [t3, if_pos rfl] at G
        have GT : Hid (meetT a1 a2 b1 b2 = _) := G
        clear G FT t3
        go_wp2_with fail
        refine bodyPost_ret (v := .tuple #[.agg #[.int .u64 0, .int .u64 0], .int .i64 6, .string ⟨#[]⟩]) (by simp [results, Tryz.results64, go_sem, z0, z1]) rfl ?_
        rw [GT.out]
        exact ⟨rfl, (m4.out.hb.setCell (by simp; omega) _).setCell (by simp; omega) _⟩
end Go.Proofs.YtonhpkigoplmaaaGreatDoor
namespace Go.Proofs.YtonhpkigoplmaaaGreatDoor
open Go.RowKit Go.Extern.Stop Go.Stop Go.Extern

theorem c_typeOfOE (v : Value) (w : World) : (ReflectliteType.typeOf #[.iface 136 v]).run Tryz.prog w = .ok (.iface 216 (.agg #[.pointer (some ⟨11, 136, none⟩)])) w := by kernel_rfl
theorem c_assignableOE (w : World) : (ReflectliteType.relation "AssignableTo" ReflectliteType.assignableTo #[.agg #[.pointer (some ⟨11, 136, none⟩)], .iface 216 (.agg #[.pointer (some ⟨11, 136, none⟩)])]).run Tryz.prog w = .ok (.bool true) w := by kernel_rfl
theorem c_valueOfOE (e : Addr) (w : World) : (ReflectliteValue.unpack (.iface 136 (.pointer (some e)))).run Tryz.prog w
    = .ok (.agg #[.pointer (some ⟨11, 136, none⟩), .pointer (some ⟨w.heap.size, 0, none⟩), .int .u64 150]) (w.alloc (.cells #[.pointer (some e)] 136)) := by kernel_rfl
theorem c_elemTPP (w : World) : (Rtype.elem? 141).run Tryz.prog w = .ok (some 136) w := by kernel_rfl
theorem c_mkOE (p : Addr) (w : World) : (ReflectliteValue.mk 136 p ReflectliteValue.flagAddr).run Tryz.prog w = .ok (.agg #[.pointer (some ⟨11, 136, none⟩), .pointer (some p), .int .u64 406]) w := by kernel_rfl
theorem c_elemVPP (a p : Addr) (W : World) (ha : W.cell? a = some (.pointer (some p))) :
    (ReflectliteValue.method (ReflectliteValue.valueError "reflectlite.Value.Elem" 0) ReflectliteValue.elem #[.agg #[.pointer (some ⟨11, 141, none⟩), .pointer (some a), .int .u64 150]]).run Tryz.prog W
      = .ok (.agg #[.pointer (some ⟨11, 136, none⟩), .pointer (some p), .int .u64 406]) W := by
  rw [rlm]
  simp only [Sem.run_bind, c_partsPP, Result.andThen]
  simp [ReflectliteValue.elem, loadVar, isAgg, underlying, Tryz.underlying141, ha, Result.andThen, c_elemTPP, c_mkOE]
theorem c_partsOEa (a : Addr) (w : World) : (ReflectliteValue.parts (.agg #[.pointer (some ⟨11, 136, none⟩), .pointer (some a), .int .u64 406])).run Tryz.prog w = .ok (some (136, a, 406)) w := by kernel_rfl
theorem c_partsOE (a : Addr) (w : World) : (ReflectliteValue.parts (.agg #[.pointer (some ⟨11, 136, none⟩), .pointer (some a), .int .u64 150])).run Tryz.prog w = .ok (some (136, a, 150)) w := by kernel_rfl
theorem c_directOE (w : World) : (Rtype.directlyAssignable 136 136).run Tryz.prog w = .ok true w := by kernel_rfl
theorem c_setOE (ta b e : Addr) (old : Value) (W : World) (hb : W.cell? b = some (.pointer (some e))) (ht : W.cell? ta = some old) (hf : W.frozen? ta = false) :
    (ReflectliteValue.set #[.agg #[.pointer (some ⟨11, 136, none⟩), .pointer (some ta), .int .u64 406], .agg #[.pointer (some ⟨11, 136, none⟩), .pointer (some b), .int .u64 150]]).run Tryz.prog W
      = .ok (.tuple #[]) (W.setCell ta (.pointer (some e))) := by
  unfold ReflectliteValue.set
  delta ReflectliteValue.set.match_3
  simp only [Array.getLit, List.size_toArray, List.length_cons, List.length_nil, Nat.zero_add, Nat.reduceAdd, dite_true, List.getElem_toArray, List.getElem_cons_zero, List.getElem_cons_succ]
  simp only [Sem.run_bind, c_partsOEa, c_partsOE, Result.andThen]
  simp [ReflectliteValue.flagAddr, loadVar, isAgg, underlying, Tryz.underlying136, hb, Result.andThen, c_directOE, storeVar, Value.cells, storeCells, Addr.add]
  rw [run_store Tryz.prog W ta _ _ (by rfl)]
  simp [ht, hf]

set_option maxHeartbeats 4000000 in
/-- errors.As(x, &o), x an *OpError: true; o is x. -/
theorem as_hit (e t : Addr) (old : Value) (w : World) (hg : w.cell? ⟨9, 0, none⟩ = some (.iface 216 (.agg #[.pointer (some ⟨11, 70, none⟩)]))) (ht0 : w.cell? t = some old) (hf0 : w.frozen? t = false) :
    Calls Tryz.prog 96 #[.iface 136 (.pointer (some e)), .iface 141 (.pointer (some t))] w fun ev w' => ev = .returned (.bool true) ∧ ∃ w1, Below w.heap.size w w1 ∧ w' = w1.setCell t (.pointer (some e)) := by
  have h6 := @run_callFunc_extern Tryz.prog 146 _ (fun args => ReflectliteValue.unpack (args.getD 0 (.tuple #[]))) Tryz.func146 (by kernel_rfl) (by kernel_rfl) (by kernel_rfl) (by kernel_rfl)
  have h7 := @run_callFunc_extern Tryz.prog 147 _ (ReflectliteValue.methodAny (ReflectliteValue.valueError "reflectlite.Value.Type" 0) (fun t _ _ _ => ReflectliteType.toType t)) Tryz.func147 (by kernel_rfl) (by kernel_rfl) (by kernel_rfl) (by kernel_rfl)
  have h8 := @run_callFunc_extern Tryz.prog 148 _ (ReflectliteValue.method (ReflectliteValue.valueError "reflectlite.Value.IsNil" 0) ReflectliteValue.isNil) Tryz.func148 (by kernel_rfl) (by kernel_rfl) (by kernel_rfl) (by kernel_rfl)
  have h27 := @run_callFunc_extern Tryz.prog 197 _ (ReflectliteType.abiMethod fun t => do pure (.int .u8 (← Rtype.kind t))) Tryz.func197 (by kernel_rfl) (by kernel_rfl) (by kernel_rfl) (by kernel_rfl)
  have h37 := @run_callFunc_extern Tryz.prog 207 _ (ReflectliteType.method ReflectliteType.elem) Tryz.func207 (by kernel_rfl) (by kernel_rfl) (by kernel_rfl) (by kernel_rfl)
  have h38 := @run_callFunc_extern Tryz.prog 208 _ (ReflectliteType.relation "Implements" ReflectliteType.implements_) Tryz.func208 (by kernel_rfl) (by kernel_rfl) (by kernel_rfl) (by kernel_rfl)
  have h10 := @run_callFunc_extern Tryz.prog 150 _ ReflectliteType.typeOf Tryz.func150 (by kernel_rfl) (by kernel_rfl) (by kernel_rfl) (by kernel_rfl)
  have h35 := @run_callFunc_extern Tryz.prog 205 _ (ReflectliteType.relation "AssignableTo" ReflectliteType.assignableTo) Tryz.func205 (by kernel_rfl) (by kernel_rfl) (by kernel_rfl) (by kernel_rfl)
  have h11 := @run_callFunc_extern Tryz.prog 175 _ (ReflectliteValue.method (ReflectliteValue.valueError "reflectlite.Value.Elem" 0) ReflectliteValue.elem) Tryz.func175 (by kernel_rfl) (by kernel_rfl) (by kernel_rfl) (by kernel_rfl)
  have h12 := @run_callFunc_extern Tryz.prog 176 _ ReflectliteValue.set Tryz.func176 (by kernel_rfl) (by kernel_rfl) (by kernel_rfl) (by kernel_rfl)
  have tO := c_typeOfOE
  have mA := c_methodAssignableTo
  have a25 := c_assignableOE
  have v25 := c_valueOfOE
  have f6 := c_valueOfPP
  have f7 := c_typePP
  have mK := c_methodKind
  have mE := c_methodElem
  have mI := c_methodImplements
  have k27 := c_kindPP
  have k25 := c_kindPE
  have e27 := c_elemPP
  have i25 := c_implementsPE
  have n8 := c_isNilPP ⟨w.heap.size, 0, none⟩ t ((w.alloc (.cells #[.pointer (some t)] 141)).alloc (.cells #[.pointer (some ⟨11, 141, none⟩), .pointer (some ⟨w.heap.size, 0, none⟩), .int .u64 150] 186)) (by simp)
  have hlt := lt_of_cell hg
  have hg2 : ((w.alloc (.cells #[.pointer (some t)] 141)).alloc (.cells #[.pointer (some ⟨11, 141, none⟩), .pointer (some ⟨w.heap.size, 0, none⟩), .int .u64 150] 186)).cell? ⟨9, 0, none⟩ = some (.iface 216 (.agg #[.pointer (some ⟨11, 70, none⟩)])) := by
    rw [World.cell?_alloc_lt _ _ ⟨9, 0, none⟩ (by simp at hlt ⊢; omega), World.cell?_alloc_lt _ _ ⟨9, 0, none⟩ hlt]; exact hg
  have htl := lt_of_cell ht0
  have el := c_elemVPP ⟨w.heap.size, 0, none⟩ t (((w.alloc (.cells #[.pointer (some t)] 141)).alloc (.cells #[.pointer (some ⟨11, 141, none⟩), .pointer (some ⟨w.heap.size, 0, none⟩), .int .u64 150] 186)).alloc (.cells #[.pointer (some ⟨11, 141, none⟩), .pointer (some ⟨w.heap.size, 0, none⟩), .int .u64 150] 186)) (by rw [World.cell?_alloc_lt _ _ ⟨w.heap.size, 0, none⟩ (by simp; omega)]; simp)
  have st := c_setOE t ⟨w.heap.size + 1 + 1 + 1, 0, none⟩ e old ((((w.alloc (.cells #[.pointer (some t)] 141)).alloc (.cells #[.pointer (some ⟨11, 141, none⟩), .pointer (some ⟨w.heap.size, 0, none⟩), .int .u64 150] 186)).alloc (.cells #[.pointer (some ⟨11, 141, none⟩), .pointer (some ⟨w.heap.size, 0, none⟩), .int .u64 150] 186)).alloc (.cells #[.pointer (some e)] 136))
    (by rw [World.cell?_alloc_at _ _ _ _ (by simp)]; rfl)
    (by rw [World.cell?_alloc_lt _ _ t (by simp; omega), World.cell?_alloc_lt _ _ t (by simp; omega), World.cell?_alloc_lt _ _ t (by simp; omega), World.cell?_alloc_lt _ _ t htl]; exact ht0)
    (by rw [World.frozen?_alloc_old _ _ t (by simp; omega), World.frozen?_alloc_old _ _ t (by simp; omega), World.frozen?_alloc_old _ _ t (by simp; omega), World.frozen?_alloc_old _ _ t (Nat.ne_of_lt htl)]; exact hf0)
  go_enter Tryz.func96, Tryz.ntmps96
  go_wp2
  refine wp_loop_rounds 1 ?_
  rw [rounds_succ]
  go_wp2
  go_ret
  exact ⟨rfl, _, ((((Below.refl _ _).alloc (Nat.le_refl _) _).alloc (by simp) _).alloc (by simp; omega) _).alloc (by simp; omega) _, rfl⟩
end Go.Proofs.YtonhpkigoplmaaaGreatDoor
namespace Go.Proofs.YtonhpkigoplmaaaGreatDoor
open Go.RowKit Go.Extern.Stop Go.Stop Go.Extern

theorem c_methodUnwrap (p : Addr) (w : World) : (Go.method 363 136 (.pointer (some p)) "Unwrap").run Tryz.prog w = .ok (97, .pointer (some p)) w := by kernel_rfl
theorem c_noIsOE (v : Value) (xT : TypeId) (w : World) : (Instr.typeAssert (.iface 136 v) xT 226 true).run Tryz.prog w = .ok (.tuple #[.nilIface, .bool false]) w := run_typeAssert_lacksB Tryz.underlying226 (by kernel_rfl) (by kernel_rfl) v xT w
theorem c_unwrapOE (v : Value) (xT : TypeId) (w : World) : (Instr.typeAssert (.iface 136 v) xT 223 true).run Tryz.prog w = .ok (.tuple #[.iface 136 v, .bool true]) w := run_typeAssert_hasB Tryz.underlying223 (by kernel_rfl) v xT w

theorem unwrap_any (b : Nat) (s : ByteArray) (e : Value) (w : World) (h : w.heap[b]? = some (.cells #[.string s, e] 138 (0, 0))) : Calls Tryz.prog 97 #[.pointer (some ⟨b, 0, none⟩)] w fun ev w' => ev = .returned e ∧ w' = w := by
  have hc : w.cell? ⟨b, 1, none⟩ = some e := by simp [World.cell?, h]
  go_enter Tryz.func97, Tryz.ntmps97
  go_wp2
  go_ret
  exact ⟨rfl, rfl⟩

/-- errors.Is(x, y), x an *OpError that holds y. -/
theorem is_wrap_same (b : Nat) (s : ByteArray) (a : Addr) (w : World) (h : w.heap[b]? = some (.cells #[.string s, .iface 229 (.pointer (some a))] 138 (0, 0))) :
    Calls Tryz.prog 98 #[.iface 136 (.pointer (some ⟨b, 0, none⟩)), .iface 229 (.pointer (some a))] w fun e w' => e = .returned (.bool true) ∧ w' = w := by
  obtain ⟨i, hi, hcmp⟩ := Option.map_eq_some_iff.1 c_compES
  obtain ⟨j, hj, hjs⟩ := Option.map_eq_some_iff.1 c_sizeES
  have h8 := @run_callFunc_extern Tryz.prog 150 _ Extern.ReflectliteType.typeOf Tryz.func150 (by kernel_rfl) (by kernel_rfl) (by kernel_rfl) (by kernel_rfl)
  have h32 := @run_callFunc_extern Tryz.prog 206 _ (Extern.ReflectliteType.method cmpEntry) Tryz.func206 (by kernel_rfl) (by kernel_rfl) (by kernel_rfl) (by kernel_rfl)
  have tT := c_typeOfES
  have cT := c_comparable
  have mR := c_methodComparable
  have mU := c_methodUnwrap ⟨b, 0, none⟩
  have nI := c_noIsOE
  have uO := c_unwrapOE
  have hne := run_eql_iface_types (P := Tryz.prog) 136 229 (.pointer (some ⟨b, 0, none⟩)) (.pointer (some a)) Tryz.underlying70 (by decide)
  have heq := run_eql_iface_ptr_same (P := Tryz.prog) w a Tryz.underlying70 Tryz.underlying229 hi hcmp hj
  have HU : Hid (∀ w, w.heap[b]? = some (.cells #[.string s, .iface 229 (.pointer (some a))] 138 (0, 0)) → Calls Tryz.prog 97 #[.pointer (some ⟨b, 0, none⟩)] w fun ev w' => ev = .returned (.iface 229 (.pointer (some a))) ∧ w' = w) := fun w h => unwrap_any b s _ w h
  have H : Hid (w.heap[b]? = some (.cells #[.string s, .iface 229 (.pointer (some a))] 138 (0, 0))) := h
  clear h
  go_enter Tryz.func98, Tryz.ntmps98
  go_wp2
  refine wp_loop_rounds 2 ?_
  rw [rounds_succ]
  go_wp2_with fail
  refine Calls.mono (HU.out _ H.out) ?_
  rintro e w' ⟨rfl, rfl⟩
  go_wp2_with fail
  rw [rounds_succ]
  go_wp2
  go_ret
  exact ⟨rfl, rfl⟩

/-- errors.Is(x, y), x an *OpError that holds another one. -/
theorem is_wrap_other (b : Nat) (s : ByteArray) (a c : Addr) (ca cb : Array Value) (ta tb : TypeId) (w : World) (hac : a ≠ c) (ha : w.heap[a.block]? = some (.cells ca ta (0, 0))) (hb : w.heap[c.block]? = some (.cells cb tb (0, 0))) (h : w.heap[b]? = some (.cells #[.string s, .iface 229 (.pointer (some a))] 138 (0, 0))) :
    Calls Tryz.prog 98 #[.iface 136 (.pointer (some ⟨b, 0, none⟩)), .iface 229 (.pointer (some c))] w fun e w' => e = .returned (.bool false) ∧ w' = w := by
  obtain ⟨i, hi, hcmp⟩ := Option.map_eq_some_iff.1 c_compES
  obtain ⟨j, hj, hjs⟩ := Option.map_eq_some_iff.1 c_sizeES
  have h8 := @run_callFunc_extern Tryz.prog 150 _ Extern.ReflectliteType.typeOf Tryz.func150 (by kernel_rfl) (by kernel_rfl) (by kernel_rfl) (by kernel_rfl)
  have h32 := @run_callFunc_extern Tryz.prog 206 _ (Extern.ReflectliteType.method cmpEntry) Tryz.func206 (by kernel_rfl) (by kernel_rfl) (by kernel_rfl) (by kernel_rfl)
  have tT := c_typeOfES
  have cT := c_comparable
  have mR := c_methodComparable
  have mU := c_methodUnwrap ⟨b, 0, none⟩
  have nI := c_noIsOE
  have uO := c_unwrapOE
  have hne := run_eql_iface_types (P := Tryz.prog) 136 229 (.pointer (some ⟨b, 0, none⟩)) (.pointer (some c)) Tryz.underlying70 (by decide)
  have nE := c_noIsES
  have uE := c_noUnwrapES
  have vE := c_noUnwrapsES
  have heq := run_eql_iface_ptr_other (P := Tryz.prog) w Tryz.underlying70 Tryz.underlying229 hi hcmp hj (by rw [hjs]; decide) hac ha hb
  clear ha hb
  have HU : Hid (∀ w, w.heap[b]? = some (.cells #[.string s, .iface 229 (.pointer (some a))] 138 (0, 0)) → Calls Tryz.prog 97 #[.pointer (some ⟨b, 0, none⟩)] w fun ev w' => ev = .returned (.iface 229 (.pointer (some a))) ∧ w' = w) := fun w h => unwrap_any b s _ w h
  have H : Hid (w.heap[b]? = some (.cells #[.string s, .iface 229 (.pointer (some a))] 138 (0, 0))) := h
  clear h
  go_enter Tryz.func98, Tryz.ntmps98
  go_wp2
  refine wp_loop_rounds 2 ?_
  rw [rounds_succ]
  go_wp2_with fail
  refine Calls.mono (HU.out _ H.out) ?_
  rintro e w' ⟨rfl, rfl⟩
  go_wp2_with fail
  rw [rounds_succ]
  go_wp2
  go_ret
  exact ⟨rfl, rfl⟩
end Go.Proofs.YtonhpkigoplmaaaGreatDoor
namespace Go.Proofs.YtonhpkigoplmaaaGreatDoor
open Go.RowKit Go.Extern.Stop Go.Stop Go.Extern

set_option maxRecDepth 100000 in
set_option maxHeartbeats 4000000 in
theorem code_op (A : Nat → Addr) (w : World) (b i : Nat) (s : ByteArray) (hi : i < 9) (hS : Sents A w) (h : w.heap[b]? = some (.cells #[.string s, .iface 229 (.pointer (some (A i)))] 138 (0, 0))) :
    Calls Tryz.prog 49 #[.iface 136 (.pointer (some ⟨b, 0, none⟩))] w fun e w' => e = .returned (.tuple #[.int .i64 (i + 1 : Nat), .string s]) ∧ Below w.heap.size w w' := by
  obtain ⟨i', hi', hcmp⟩ := Option.map_eq_some_iff.1 c_compES
  obtain ⟨j', hj', hjs⟩ := Option.map_eq_some_iff.1 c_sizeES
  have hneq : ∀ w, (binOp .neq 70 (.iface 229 (.pointer (some (A i)))) (.iface 229 (.pointer (some (A i))))).run Tryz.prog w = .ok (.bool false) w := by
    intro w
    simp only [binOp]
    simp [Op.equal, Op.maxDepth, run_equalIn_iface_ptr_same w 9998 (A i) Tryz.underlying70 Tryz.underlying229 hi' hcmp hj']
  clear hi' hj' hcmp hjs
  go_enter Tryz.func49, Tryz.ntmps49
  go_wp2_with fail
  refine (as_hit _ _ (.pointer none) _ (hS.alloc _).ty (by simp) (by simp)).mono ?_
  rintro e w0 ⟨rfl, w1', hb0, rfl⟩
  have hbA : Below w.heap.size w (w1'.setCell ⟨w.heap.size, 0, none⟩ (.pointer (some ⟨b, 0, none⟩))) := (((Below.refl _ _).alloc (Nat.le_refl _) _).trans (hb0.mono (by simp))).setCell (by simp) _
  have k0 : (w1'.setCell ⟨w.heap.size, 0, none⟩ (.pointer (some ⟨b, 0, none⟩))).cell? ⟨w.heap.size, 0, none⟩ = some (.pointer (some ⟨b, 0, none⟩)) := by
    have := blk_below (blk_new w _) hb0
    simp [World.cell?, World.setCell, Array.getElem?_modify, this]
  have h2 : (w1'.setCell ⟨w.heap.size, 0, none⟩ (.pointer (some ⟨b, 0, none⟩))).heap[b]? = some (.cells #[.string s, .iface 229 (.pointer (some (A i)))] 138 (0, 0)) := by
    rw [hbA.block _ (lt_of_row h)]; exact h
  have hS1 := hS.below hbA (Nat.le_refl _)
  have hb := hbA
  clear hb0 hbA h
  generalize w1'.setCell ⟨w.heap.size, 0, none⟩ (.pointer (some ⟨b, 0, none⟩)) = w1 at *
  have k1 : w1.cell? ⟨b, 0, none⟩ = some (.string s) := by simp [World.cell?, h2]
  have k2 : w1.cell? ⟨b, 1, none⟩ = some (.iface 229 (.pointer (some (A i)))) := by simp [World.cell?, h2]
  go_wp2_with fail
  have H2 : Hid (w1.heap[b]? = some (.cells #[.string s, .iface 229 (.pointer (some (A i)))] 138 (0, 0))) := h2
  have HS1 : Hid (Sents A w1) := hS1
  have HB : Hid (Below w.heap.size w w1) := hb
  clear h2 hS1 hb hS
  go_region_held3 (fun W => W.cell? ⟨w.heap.size, 0, none⟩ = some (.pointer (some ⟨b, 0, none⟩)) ∧ W.cell? ⟨b, 1, none⟩ = some (.iface 229 (.pointer (some (A i))))) (first | (go_keep; done) | (refine ⟨?_, ?_⟩ <;> first | (go_keep; done) | assumption))
    (first | (go_at_call 97; refine (unwrap_any b s _ _ (show (w1.drew).heap[b]? = _ from H2.out)).mono ?_; rintro e w3 ⟨rfl, rfl⟩))
  have hS1 : Sents A w1.drew := HS1.out.below (Below.refl _ _).drew (Nat.le_refl _)
  have hb : Below w.heap.size w w1.drew := HB.out.drew
  have h2 : w1.drew.heap[b]? = some (.cells #[.string s, .iface 229 (.pointer (some (A i)))] 138 (0, 0)) := H2.out
  clear HS1 HB H2 k0 k1 k2 hneq
  generalize w1.drew = w1 at *
  have c0 : w1.cell? ⟨3, 0, none⟩ = some (.iface 229 (.pointer (some (A 0)))) := hS1.cell 0 (by omega)
  have c1 : w1.cell? ⟨4, 0, none⟩ = some (.iface 229 (.pointer (some (A 1)))) := hS1.cell 1 (by omega)
  have c2 : w1.cell? ⟨5, 0, none⟩ = some (.iface 229 (.pointer (some (A 2)))) := hS1.cell 2 (by omega)
  have c3 : w1.cell? ⟨1, 0, none⟩ = some (.iface 229 (.pointer (some (A 3)))) := hS1.cell 3 (by omega)
  have c4 : w1.cell? ⟨2, 0, none⟩ = some (.iface 229 (.pointer (some (A 4)))) := hS1.cell 4 (by omega)
  have c5 : w1.cell? ⟨0, 0, none⟩ = some (.iface 229 (.pointer (some (A 5)))) := hS1.cell 5 (by omega)
  have c6 : w1.cell? ⟨6, 0, none⟩ = some (.iface 229 (.pointer (some (A 6)))) := hS1.cell 6 (by omega)
  have c7 : w1.cell? ⟨7, 0, none⟩ = some (.iface 229 (.pointer (some (A 7)))) := hS1.cell 7 (by omega)
  have c8 : w1.cell? ⟨8, 0, none⟩ = some (.iface 229 (.pointer (some (A 8)))) := hS1.cell 8 (by omega)
  go_wp2_with fail
  have hS2 := hS1.alloc (Obj.cells #[Value.iface 229 (Value.pointer (some (A 0))), Value.iface 229 (Value.pointer (some (A 1))), Value.iface 229 (Value.pointer (some (A 2))), Value.iface 229 (Value.pointer (some (A 3))), Value.iface 229 (Value.pointer (some (A 4))), Value.iface 229 (Value.pointer (some (A 5))), Value.iface 229 (Value.pointer (some (A 6))), Value.iface 229 (Value.pointer (some (A 7))), Value.iface 229 (Value.pointer (some (A 8)))] 70)
  have hb2 := hb.alloc hb.size (Obj.cells #[Value.iface 229 (Value.pointer (some (A 0))), Value.iface 229 (Value.pointer (some (A 1))), Value.iface 229 (Value.pointer (some (A 2))), Value.iface 229 (Value.pointer (some (A 3))), Value.iface 229 (Value.pointer (some (A 4))), Value.iface 229 (Value.pointer (some (A 5))), Value.iface 229 (Value.pointer (some (A 6))), Value.iface 229 (Value.pointer (some (A 7))), Value.iface 229 (Value.pointer (some (A 8)))] 70)
  have hl : ∀ k, k < 9 → (w1.alloc (Obj.cells #[Value.iface 229 (Value.pointer (some (A 0))), Value.iface 229 (Value.pointer (some (A 1))), Value.iface 229 (Value.pointer (some (A 2))), Value.iface 229 (Value.pointer (some (A 3))), Value.iface 229 (Value.pointer (some (A 4))), Value.iface 229 (Value.pointer (some (A 5))), Value.iface 229 (Value.pointer (some (A 6))), Value.iface 229 (Value.pointer (some (A 7))), Value.iface 229 (Value.pointer (some (A 8)))] 70)).cell? ⟨w1.heap.size, k, none⟩ = some (.iface 229 (.pointer (some (A k)))) := by
    intro k hk
    rcases (show k = 0 ∨ k = 1 ∨ k = 2 ∨ k = 3 ∨ k = 4 ∨ k = 5 ∨ k = 6 ∨ k = 7 ∨ k = 8 by omega) with rfl | rfl | rfl | rfl | rfl | rfl | rfl | rfl | rfl <;> simp
  have H3 : Hid ((w1.alloc (Obj.cells #[Value.iface 229 (Value.pointer (some (A 0))), Value.iface 229 (Value.pointer (some (A 1))), Value.iface 229 (Value.pointer (some (A 2))), Value.iface 229 (Value.pointer (some (A 3))), Value.iface 229 (Value.pointer (some (A 4))), Value.iface 229 (Value.pointer (some (A 5))), Value.iface 229 (Value.pointer (some (A 6))), Value.iface 229 (Value.pointer (some (A 7))), Value.iface 229 (Value.pointer (some (A 8)))] 70)).heap[b]? = some (.cells #[.string s, .iface 229 (.pointer (some (A i)))] 138 (0, 0))) := by
    rw [Below.heap_alloc _ _ _ (lt_of_row h2)]; exact h2
  clear c0 c1 c2 c3 c4 c5 c6 c7 c8 hb hS1 h2
  generalize (w1.alloc (Obj.cells #[Value.iface 229 (Value.pointer (some (A 0))), Value.iface 229 (Value.pointer (some (A 1))), Value.iface 229 (Value.pointer (some (A 2))), Value.iface 229 (Value.pointer (some (A 3))), Value.iface 229 (Value.pointer (some (A 4))), Value.iface 229 (Value.pointer (some (A 5))), Value.iface 229 (Value.pointer (some (A 6))), Value.iface 229 (Value.pointer (some (A 7))), Value.iface 229 (Value.pointer (some (A 8)))] 70)) = W2 at *
  go_loop [38] (fun v => ∃ k : Nat, k ≤ i ∧ v = .int .i64 k) (fun v => 9 - (intOf v).toNat)
  case atStart => exact ⟨0, Nat.zero_le _, rfl⟩
  case round =>
    obtain ⟨k, hk, rfl⟩ := hrel
    have hck := hl k (by omega)
    have hk9 : k < 9 := by omega
    clear hl
    by_cases hki : k = i
    · subst hki
      go_wp2_with fail
      refine (is_wrap_same b s _ _ H3.out).mono ?_
      rintro e w' ⟨rfl, rfl⟩
      go_wp2_with fail
      go_ret2
      exact ⟨by go_num, hb2⟩
    · obtain ⟨ca, ta, hra⟩ := hS2.row i hi
      obtain ⟨cb, tb, hrb⟩ := hS2.row k hk9
      have hne : A i ≠ A k := fun h => hS2.other k i (by omega) hi h.symm
      go_wp2_with fail
      refine (is_wrap_other b s _ _ ca cb ta tb _ hne hra hrb H3.out).mono ?_
      rintro e w' ⟨rfl, rfl⟩
      go_wp2_with fail
      go_round
      case rel => exact ⟨k + 1, by omega, by go_num⟩
      case measure => simp [intOf]; omega
end Go.Proofs.YtonhpkigoplmaaaGreatDoor
namespace Go.Proofs.YtonhpkigoplmaaaGreatDoor
open Go.RowKit Go.Extern Ieee
attribute [local go_sem] run_store_float

/-- An error by its number and its operation's name: none, one of the nine, or one of them in an *OpError. -/
def ErrIs (A : Nat → Addr) (w : World) (v : Value) (k : Nat) (s : ByteArray) : Prop :=
  (v = .nilIface ∧ k = 0 ∧ s = ⟨#[]⟩) ∨ (∃ j, j < 9 ∧ v = .iface 229 (.pointer (some (A j))) ∧ k = j + 1 ∧ s = ⟨#[]⟩) ∨
    (∃ j, j < 9 ∧ ∃ b, w.heap[b]? = some (.cells #[.string s, .iface 229 (.pointer (some (A j)))] 138 (0, 0)) ∧ v = .iface 136 (.pointer (some ⟨b, 0, none⟩)) ∧ k = j + 1)
theorem ErrIs.nil {A : Nat → Addr} {w : World} : ErrIs A w .nilIface 0 ⟨#[]⟩ := Or.inl ⟨rfl, rfl, rfl⟩
theorem ErrIs.one {A : Nat → Addr} {w : World} (k : Nat) (h : k < 9) : ErrIs A w (.iface 229 (.pointer (some (A k)))) (k + 1) ⟨#[]⟩ := Or.inr (Or.inl ⟨k, h, rfl, rfl, rfl⟩)
theorem ErrIs.op {A : Nat → Addr} {w : World} (k : Nat) (h : k < 9) (b : Nat) (s : ByteArray) (hb : w.heap[b]? = some (.cells #[.string s, .iface 229 (.pointer (some (A k)))] 138 (0, 0))) : ErrIs A w (.iface 136 (.pointer (some ⟨b, 0, none⟩))) (k + 1) s := Or.inr (Or.inr ⟨k, h, b, hb, rfl, rfl⟩)

theorem ErrIs.below {A : Nat → Addr} {w w' : World} {v : Value} {k : Nat} {s : ByteArray} (h : ErrIs A w v k s) (hb : Below w.heap.size w w') : ErrIs A w' v k s := by
  rcases h with ⟨rfl, rfl, rfl⟩ | ⟨k, h, rfl, rfl, rfl⟩ | ⟨k, h, b, hr, rfl, rfl⟩
  · exact .nil
  · exact .one k h
  · exact .op k h b s (by rw [hb.block _ (lt_of_row hr)]; exact hr)

theorem code_any (A : Nat → Addr) (v : Value) (k : Nat) (s : ByteArray) (w : World) (hS : Sents A w) (h : ErrIs A w v k s) :
    Calls Tryz.prog 49 #[v] w fun e w' => e = .returned (.tuple #[.int .i64 (k : Int), .string s]) ∧ Below w.heap.size w w' := by
  rcases h with ⟨rfl, rfl, rfl⟩ | ⟨k, h, rfl, rfl, rfl⟩ | ⟨k, h, b, hr, rfl, rfl⟩
  ·
    refine Calls.mono (code_nil w) ?_
    rintro e w' ⟨rfl, rfl⟩
    exact ⟨rfl, Below.refl _ _⟩
  · exact code_sent A w k h hS
  · exact code_op A w b k s h hS hr

/-- What an operation hands back: an interval's ends and an error. -/
def OpR (A : Nat → Addr) (w : World) (lo hi k : Nat) (s : ByteArray) (ev : Ending) (w' : World) : Prop :=
  ∃ v, ev = .returned (.tuple #[.agg #[.float .f64 lo, .float .f64 hi], v]) ∧ ErrIs A w' v k s ∧ Below w.heap.size w w'

/-- The name of an error's operation. -/
def opS (s : ByteArray) (k : Nat) : ByteArray := if k = 0 then ⟨#[]⟩ else s

theorem heap_drew_new (w : World) (s : ByteArray) (a : Addr) : ((w.alloc (Obj.cells #[.float .f64 0, .float .f64 0] 67)).alloc (Obj.cells #[.string s, .iface 229 (.pointer (some a))] 138)).drew.heap[w.heap.size + 1]? = some (.cells #[.string s, .iface 229 (.pointer (some a))] 138 (0, 0)) := by
  have := blk_new (w.alloc (Obj.cells #[.float .f64 0, .float .f64 0] 67)) (Obj.cells #[.string s, .iface 229 (.pointer (some a))] 138)
  rw [World.size_alloc] at this
  exact this

theorem within_any (A : Nat → Addr) (s : ByteArray) (lo hi : Nat) (p q : Int) (w : World) (hS : Sents A w) (hlo : FR lo p) (hhi : FR hi q) :
    Calls Tryz.prog 88 #[.string s, .float .f64 lo, .float .f64 hi] w fun ev w' => OpR A w (boxP p q).1 (boxP p q).2.1 (boxP p q).2.2 (opS s (boxP p q).2.2) ev w' := by
  have H1 : Hid (∀ w, Calls Tryz.prog 112 #[.float .f64 lo] w fun e w' => e = .returned (.bool (plP p)) ∧ w' = w) := by
    intro w
    rw [← hlo.plain]; exact isPlain_any lo w hlo.lt
  have H2 : Hid (∀ w, Calls Tryz.prog 112 #[.float .f64 hi] w fun e w' => e = .returned (.bool (plP q)) ∧ w' = w) := by
    intro w
    rw [← hhi.plain]; exact isPlain_any hi w hhi.lt
  have c2 : w.cell? ⟨5, 0, none⟩ = some (.iface 229 (.pointer (some (A 2)))) := hS.cell 2 (by omega)
  have hl2 := lt_of_cell c2
  cases hp : plP p
  · have e : Hid (boxP p q = (0, 0, 3)) := by show _ = _; unfold boxP; rw [if_neg (by rw [hp]; simp)]
    rw [hp] at H1
    clear hp hlo hhi hS
    go_enter Tryz.func88, Tryz.ntmps88
    go_wp2_with fail
    refine Calls.mono (H1.out _) ?_
    rintro e w' ⟨rfl, rfl⟩
    clear H1 H2
    go_wp2_with fail
    go_region
    go_wp2_with fail
    refine bodyPost_ret (v := .tuple #[.agg #[.float .f64 0, .float .f64 0], .iface 136 (.pointer (some ⟨w.heap.size + 1, 0, none⟩))]) (by simp [results, Tryz.results88, go_sem]) rfl ?_
    rw [e.out]
    refine ⟨_, rfl, .op 2 (by omega) _ s (heap_drew_new w s (A 2)), (((Below.refl _ _).alloc (Nat.le_refl _) _).alloc (by simp) _).drew⟩
  · rw [hp] at H1
    cases hq : plP q
    · have e : Hid (boxP p q = (0, 0, 3)) := by show _ = _; unfold boxP; rw [if_neg (by rw [hq]; simp)]
      rw [hq] at H2
      clear hp hq hlo hhi hS
      go_enter Tryz.func88, Tryz.ntmps88
      go_wp2_with fail
      refine Calls.mono (H1.out _) ?_
      rintro e w' ⟨rfl, rfl⟩
      go_wp2_with fail
      refine Calls.mono (H2.out _) ?_
      rintro e w' ⟨rfl, rfl⟩
      clear H1 H2
      go_wp2_with fail
      go_region
      go_wp2_with fail
      refine bodyPost_ret (v := .tuple #[.agg #[.float .f64 0, .float .f64 0], .iface 136 (.pointer (some ⟨w.heap.size + 1, 0, none⟩))]) (by simp [results, Tryz.results88, go_sem]) rfl ?_
      rw [e.out]
      refine ⟨_, rfl, .op 2 (by omega) _ s (heap_drew_new w s (A 2)), (((Below.refl _ _).alloc (Nat.le_refl _) _).alloc (by simp) _).drew⟩
    · have e : Hid (boxP p q = (lo, hi, 0)) := by show _ = _; unfold boxP; rw [if_pos ⟨hp, hq⟩, ← hlo.word hp, ← hhi.word hq]
      rw [hq] at H2
      clear hp hq hlo hhi hS
      go_enter Tryz.func88, Tryz.ntmps88
      go_wp2_with fail
      refine Calls.mono (H1.out _) ?_
      rintro e w' ⟨rfl, rfl⟩
      go_wp2_with fail
      refine Calls.mono (H2.out _) ?_
      rintro e w' ⟨rfl, rfl⟩
      clear H1 H2
      go_wp2_with fail
      refine bodyPost_ret (v := .tuple #[.agg #[.float .f64 lo, .float .f64 hi], .nilIface]) (by simp [results, Tryz.results88, go_sem]) rfl ?_
      rw [e.out]
      exact ⟨_, rfl, .nil, (Below.refl _ _).alloc (Nat.le_refl _) _⟩
end Go.Proofs.YtonhpkigoplmaaaGreatDoor
