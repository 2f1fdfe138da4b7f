/-
  OpQ.
-/
import Derived.Test.YtonhpkigoplmaaaGreatDoorP13
import Derived.Deep.DeepCutAuto
namespace Go.Proofs.YtonhpkigoplmaaaGreatDoor
open Go.RowKit

set_option maxHeartbeats 20000000 in
set_option maxRecDepth 100000 in
theorem refOp_neg (xl xh yl yh : Nat) (a1 a2 b1 b2 : Bool × Nat × Int) (r1 r2 r3 : Nat) (w : World) (hx : MadeG #[.agg #[.int .u64 (xl : Int), .int .u64 (xh : Int)]] a1 a2) (hy : MadeG #[.agg #[.int .u64 (yl : Int), .int .u64 (yh : Int)]] b1 b2) (hr : ∀ (W : World) (o0 o1 : Option Addr) (l0 l1 c0 c1 : Nat), l0 = (digits a2.2.1).length → l1 = (digits a1.2.1).length → NatV W (.slice o0 l0 c0) a2.2.1 → NatV W (.slice o1 l1 c1) a1.2.1 → Calls Tryz.prog 62 #[.agg #[.bool (negS a2.1 a2.2.1), .slice o0 l0 c0, .int .i64 a2.2.2], .agg #[.bool (negS a1.1 a1.2.1), .slice o1 l1 c1, .int .i64 a1.2.2]] W fun ev w' => ev = .returned (.tuple #[.agg #[.int .u64 (r1 : Int), .int .u64 (r2 : Int)], .int .i64 (r3 : Int)]) ∧ Below W.heap.size W w') :
    Calls Tryz.prog 29 #[.int .i64 0, .agg #[.int .u64 (xl : Int), .int .u64 (xh : Int)], .agg #[.int .u64 (yl : Int), .int .u64 (yh : Int)]] w fun e w' => e = .returned (.tuple #[.agg #[.int .u64 (((r1, r2, 0, ⟨#[]⟩) : Nat × Nat × Nat × ByteArray).1 : Int), .int .u64 (((r1, r2, 0, ⟨#[]⟩) : Nat × Nat × Nat × ByteArray).2.1 : Int)], .int .i64 (((r1, r2, 0, ⟨#[]⟩) : Nat × Nat × Nat × ByteArray).2.2.1 : Int), .string ((r1, r2, 0, ⟨#[]⟩) : Nat × Nat × Nat × ByteArray).2.2.2]) ∧ Below w.heap.size w w' := by
  have HX : Hid (MadeG #[.agg #[.int .u64 (xl : Int), .int .u64 (xh : Int)]] a1 a2) := hx
  have HY : Hid (MadeG #[.agg #[.int .u64 (yl : Int), .int .u64 (yh : Int)]] b1 b2) := hy
  clear hx hy
  have HAR : Hid (∀ (W : World) (o0 o1 : Option Addr) (l0 l1 c0 c1 : Nat), l0 = (digits a2.2.1).length → l1 = (digits a1.2.1).length → NatV W (.slice o0 l0 c0) a2.2.1 → NatV W (.slice o1 l1 c1) a1.2.1 → Calls Tryz.prog 62 #[.agg #[.bool (negS a2.1 a2.2.1), .slice o0 l0 c0, .int .i64 a2.2.2], .agg #[.bool (negS a1.1 a1.2.1), .slice o1 l1 c1, .int .i64 a1.2.2]] W fun ev w' => ev = .returned (.tuple #[.agg #[.int .u64 (r1 : Int), .int .u64 (r2 : Int)], .int .i64 (r3 : Int)]) ∧ Below W.heap.size W w') := hr
  clear hr
  go_enter Tryz.func29, Tryz.ntmps29
  go_wp2_with fail
  have B1 := blk_old (blk_new (w.alloc (Obj.cells #[.int .u64 (xl : Int), .int .u64 (xh : Int)] 28)) (Obj.cells #[.int .u64 (yl : Int), .int .u64 (yh : Int)] 28)) (Obj.cells #[.int .u64 0, .int .u64 0] 28)
  have B2 := blk_new ((w.alloc (Obj.cells #[.int .u64 (xl : Int), .int .u64 (xh : Int)] 28)).alloc (Obj.cells #[.int .u64 (yl : Int), .int .u64 (yh : Int)] 28)) (Obj.cells #[.int .u64 0, .int .u64 0] 28)
  have hW : Below w.heap.size w (((w.alloc (Obj.cells #[.int .u64 (xl : Int), .int .u64 (xh : Int)] 28)).alloc (Obj.cells #[.int .u64 (yl : Int), .int .u64 (yh : Int)] 28)).alloc (Obj.cells #[.int .u64 0, .int .u64 0] 28)) := (((Below.refl _ _).alloc (Nat.le_refl _) _).alloc (by simp) _).alloc (by simp; omega) _
  simp only [World.size_alloc] at B1 B2
  generalize (((w.alloc (Obj.cells #[.int .u64 (xl : Int), .int .u64 (xh : Int)] 28)).alloc (Obj.cells #[.int .u64 (yl : Int), .int .u64 (yh : Int)] 28)).alloc (Obj.cells #[.int .u64 0, .int .u64 0] 28)) = W2 at *
  refine Calls.mono (HX.out _) ?_
  rintro e w1 ⟨ao, la, ca, bo, lb, cb, rfl, hla, hlb, hna, hnb, hb1⟩
  have LA : Hid (la = _) := hla
  have LB : Hid (lb = _) := hlb
  have NA : Hid (NatV (w1.alloc (Obj.cells #[.bool a1.1, .slice ao la ca, .int .i64 a1.2.2, .bool a2.1, .slice bo lb cb, .int .i64 a2.2.2] 98)) (.slice ao la ca) _) := hna.below ((Below.refl _ _).alloc (Nat.le_refl _) _) (Nat.le_refl _)
  have NB : Hid (NatV (w1.alloc (Obj.cells #[.bool a1.1, .slice ao la ca, .int .i64 a1.2.2, .bool a2.1, .slice bo lb cb, .int .i64 a2.2.2] 98)) (.slice bo lb cb) _) := hnb.below ((Below.refl _ _).alloc (Nat.le_refl _) _) (Nat.le_refl _)
  have C1 := blk_old (blk_below B1 hb1) (Obj.cells #[.bool a1.1, .slice ao la ca, .int .i64 a1.2.2, .bool a2.1, .slice bo lb cb, .int .i64 a2.2.2] 98)
  have C2 := blk_old (blk_below B2 hb1) (Obj.cells #[.bool a1.1, .slice ao la ca, .int .i64 a1.2.2, .bool a2.1, .slice bo lb cb, .int .i64 a2.2.2] 98)
  have C0 := blk_new w1 (Obj.cells #[.bool a1.1, .slice ao la ca, .int .i64 a1.2.2, .bool a2.1, .slice bo lb cb, .int .i64 a2.2.2] 98)
  have hW1 : Below w.heap.size w (w1.alloc (Obj.cells #[.bool a1.1, .slice ao la ca, .int .i64 a1.2.2, .bool a2.1, .slice bo lb cb, .int .i64 a2.2.2] 98)) := (hW.trans (hb1.mono hW.size)).alloc (Nat.le_trans hW.size hb1.size) _
  obtain ⟨y0, y1, -, -⟩ := blk2 (blk_below B1 hb1)
  have ly := lt_of_row (blk_below B1 hb1)
  clear B1 B2 hW hb1 hla hlb hna hnb HX
  go_wp2_with fail
  clear y0 y1 ly
  generalize hga : w1.heap.size = ga at *
  generalize w1.alloc (Obj.cells #[.bool a1.1, .slice ao la ca, .int .i64 a1.2.2, .bool a2.1, .slice bo lb cb, .int .i64 a2.2.2] 98) = W3 at *
  refine Calls.mono (HY.out _) ?_
  rintro e w2 ⟨co, lc, cc, do_, ld, cd, rfl, hlc, hld, hnc, hnd, hb2⟩
  have LC : Hid (lc = _) := hlc
  have LD : Hid (ld = _) := hld
  have D1 := blk_old (blk_below C2 hb2) (Obj.cells #[.bool b1.1, .slice co lc cc, .int .i64 b1.2.2, .bool b2.1, .slice do_ ld cd, .int .i64 b2.2.2] 98)
  have D0 := blk_old (blk_below C0 hb2) (Obj.cells #[.bool b1.1, .slice co lc cc, .int .i64 b1.2.2, .bool b2.1, .slice do_ ld cd, .int .i64 b2.2.2] 98)
  have DB := blk_new w2 (Obj.cells #[.bool b1.1, .slice co lc cc, .int .i64 b1.2.2, .bool b2.1, .slice do_ ld cd, .int .i64 b2.2.2] 98)
  have hW2 : Below w.heap.size w (w2.alloc (Obj.cells #[.bool b1.1, .slice co lc cc, .int .i64 b1.2.2, .bool b2.1, .slice do_ ld cd, .int .i64 b2.2.2] 98)) := (hW1.trans (hb2.mono hW1.size)).alloc (Nat.le_trans hW1.size hb2.size) _
  have hS2 : Below W3.heap.size W3 (w2.alloc (Obj.cells #[.bool b1.1, .slice co lc cc, .int .i64 b1.2.2, .bool b2.1, .slice do_ ld cd, .int .i64 b2.2.2] 98)) := hb2.alloc hb2.size _
  have NA : Hid (NatV (w2.alloc (Obj.cells #[.bool b1.1, .slice co lc cc, .int .i64 b1.2.2, .bool b2.1, .slice do_ ld cd, .int .i64 b2.2.2] 98)) (.slice ao la ca) _) := NA.out.below hS2 (Nat.le_refl _)
  have NB : Hid (NatV (w2.alloc (Obj.cells #[.bool b1.1, .slice co lc cc, .int .i64 b1.2.2, .bool b2.1, .slice do_ ld cd, .int .i64 b2.2.2] 98)) (.slice bo lb cb) _) := NB.out.below hS2 (Nat.le_refl _)
  have NC : Hid (NatV (w2.alloc (Obj.cells #[.bool b1.1, .slice co lc cc, .int .i64 b1.2.2, .bool b2.1, .slice do_ ld cd, .int .i64 b2.2.2] 98)) (.slice co lc cc) _) := hnc.below ((Below.refl _ _).alloc (Nat.le_refl _) _) (Nat.le_refl _)
  have ND : Hid (NatV (w2.alloc (Obj.cells #[.bool b1.1, .slice co lc cc, .int .i64 b1.2.2, .bool b2.1, .slice do_ ld cd, .int .i64 b2.2.2] 98)) (.slice do_ ld cd) _) := hnd.below ((Below.refl _ _).alloc (Nat.le_refl _) _) (Nat.le_refl _)
  clear C0 C1 C2 hW1 hb2 hS2 hlc hld hnc hnd HY
  go_wp2_with fail
  generalize hgb : w2.heap.size = gb at *
  generalize w2.alloc (Obj.cells #[.bool b1.1, .slice co lc cc, .int .i64 b1.2.2, .bool b2.1, .slice do_ ld cd, .int .i64 b2.2.2] 98) = W4 at *
  refine Calls.mono (negated_g b2 _ do_ ld cd LD.out ND.out) ?_
  rintro e w3 ⟨eo, le, ce, rfl, hle, hne, hb3⟩
  have LE : Hid (le = _) := hle
  have hS3 : Below W4.heap.size W4 (w3.alloc (Obj.cells #[.bool (negS b2.1 b2.2.1), .slice eo le ce, .int .i64 b2.2.2] 92)) := hb3.alloc hb3.size _
  have E1 := blk_old (blk_below D1 hb3) (Obj.cells #[.bool (negS b2.1 b2.2.1), .slice eo le ce, .int .i64 b2.2.2] 92)
  have E0 := blk_old (blk_below D0 hb3) (Obj.cells #[.bool (negS b2.1 b2.2.1), .slice eo le ce, .int .i64 b2.2.2] 92)
  have EB := blk_old (blk_below DB hb3) (Obj.cells #[.bool (negS b2.1 b2.2.1), .slice eo le ce, .int .i64 b2.2.2] 92)
  have EL := blk_new w3 (Obj.cells #[.bool (negS b2.1 b2.2.1), .slice eo le ce, .int .i64 b2.2.2] 92)
  have hW3 : Below w.heap.size w (w3.alloc (Obj.cells #[.bool (negS b2.1 b2.2.1), .slice eo le ce, .int .i64 b2.2.2] 92)) := (hW2.trans (hb3.mono hW2.size)).alloc (Nat.le_trans hW2.size hb3.size) _
  have NA : Hid (NatV (w3.alloc (Obj.cells #[.bool (negS b2.1 b2.2.1), .slice eo le ce, .int .i64 b2.2.2] 92)) (.slice ao la ca) _) := NA.out.below hS3 (Nat.le_refl _)
  have NB : Hid (NatV (w3.alloc (Obj.cells #[.bool (negS b2.1 b2.2.1), .slice eo le ce, .int .i64 b2.2.2] 92)) (.slice bo lb cb) _) := NB.out.below hS3 (Nat.le_refl _)
  have NC : Hid (NatV (w3.alloc (Obj.cells #[.bool (negS b2.1 b2.2.1), .slice eo le ce, .int .i64 b2.2.2] 92)) (.slice co lc cc) _) := NC.out.below hS3 (Nat.le_refl _)
  have ND : Hid (NatV (w3.alloc (Obj.cells #[.bool (negS b2.1 b2.2.1), .slice eo le ce, .int .i64 b2.2.2] 92)) (.slice do_ ld cd) _) := ND.out.below hS3 (Nat.le_refl _)
  have NE : Hid (NatV (w3.alloc (Obj.cells #[.bool (negS b2.1 b2.2.1), .slice eo le ce, .int .i64 b2.2.2] 92)) (.slice eo le ce) _) := hne.below ((Below.refl _ _).alloc (Nat.le_refl _) _) (Nat.le_refl _)
  obtain ⟨y0, y1, y2, -, -, -, -, -, -, -, -, -⟩ := blk6 (blk_below DB hb3)
  have ly := lt_of_row (blk_below DB hb3)
  clear D0 D1 DB hW2 hb3 hS3 hle hne
  go_wp2_with fail
  clear y0 y1 y2 ly
  generalize hgc : w3.heap.size = gc at *
  generalize w3.alloc (Obj.cells #[.bool (negS b2.1 b2.2.1), .slice eo le ce, .int .i64 b2.2.2] 92) = W5 at *
  refine Calls.mono (negated_g b1 _ co lc cc LC.out NC.out) ?_
  rintro e w4 ⟨fo, lf, cf, rfl, hlf, hnf, hb4⟩
  have LF : Hid (lf = _) := hlf
  have hS4 : Below W5.heap.size W5 (w4.alloc (Obj.cells #[.bool (negS b1.1 b1.2.1), .slice fo lf cf, .int .i64 b1.2.2] 92)) := hb4.alloc hb4.size _
  have NA : Hid (NatV (w4.alloc (Obj.cells #[.bool (negS b1.1 b1.2.1), .slice fo lf cf, .int .i64 b1.2.2] 92)) (.slice ao la ca) _) := NA.out.below hS4 (Nat.le_refl _)
  have NB : Hid (NatV (w4.alloc (Obj.cells #[.bool (negS b1.1 b1.2.1), .slice fo lf cf, .int .i64 b1.2.2] 92)) (.slice bo lb cb) _) := NB.out.below hS4 (Nat.le_refl _)
  have NC : Hid (NatV (w4.alloc (Obj.cells #[.bool (negS b1.1 b1.2.1), .slice fo lf cf, .int .i64 b1.2.2] 92)) (.slice co lc cc) _) := NC.out.below hS4 (Nat.le_refl _)
  have ND : Hid (NatV (w4.alloc (Obj.cells #[.bool (negS b1.1 b1.2.1), .slice fo lf cf, .int .i64 b1.2.2] 92)) (.slice do_ ld cd) _) := ND.out.below hS4 (Nat.le_refl _)
  have NE : Hid (NatV (w4.alloc (Obj.cells #[.bool (negS b1.1 b1.2.1), .slice fo lf cf, .int .i64 b1.2.2] 92)) (.slice eo le ce) _) := NE.out.below hS4 (Nat.le_refl _)
  have NF : Hid (NatV (w4.alloc (Obj.cells #[.bool (negS b1.1 b1.2.1), .slice fo lf cf, .int .i64 b1.2.2] 92)) (.slice fo lf cf) _) := hnf.below ((Below.refl _ _).alloc (Nat.le_refl _) _) (Nat.le_refl _)
  have m1 : Hid (ESt w (w4.alloc (Obj.cells #[.bool (negS b1.1 b1.2.1), .slice fo lf cf, .int .i64 b1.2.2] 92)) (w4.alloc (Obj.cells #[.bool (negS b1.1 b1.2.1), .slice fo lf cf, .int .i64 b1.2.2] 92)) (w.heap.size + 1 + 1) ga gb gc w4.heap.size #[.bool a1.1, .slice ao la ca, .int .i64 a1.2.2, .bool a2.1, .slice bo lb cb, .int .i64 a2.2.2] #[.bool b1.1, .slice co lc cc, .int .i64 b1.2.2, .bool b2.1, .slice do_ ld cd, .int .i64 b2.2.2] #[.bool (negS b2.1 b2.2.1), .slice eo le ce, .int .i64 b2.2.2] #[.bool (negS b1.1 b1.2.1), .slice fo lf cf, .int .i64 b1.2.2]) :=
    ⟨blk_old (blk_below E0 hb4) _, blk_old (blk_below EB hb4) _, blk_old (blk_below E1 hb4) _, blk_old (blk_below EL hb4) _, blk_new w4 _, (hW3.trans (hb4.mono hW3.size)).alloc (Nat.le_trans hW3.size hb4.size) _, Below.refl _ _, lt_of_row (blk_old (blk_below E0 hb4) (Obj.cells #[.bool (negS b1.1 b1.2.1), .slice fo lf cf, .int .i64 b1.2.2] 92)), lt_of_row (blk_old (blk_below EB hb4) (Obj.cells #[.bool (negS b1.1 b1.2.1), .slice fo lf cf, .int .i64 b1.2.2] 92)), lt_of_row (blk_old (blk_below E1 hb4) (Obj.cells #[.bool (negS b1.1 b1.2.1), .slice fo lf cf, .int .i64 b1.2.2] 92)), lt_of_row (blk_old (blk_below EL hb4) (Obj.cells #[.bool (negS b1.1 b1.2.1), .slice fo lf cf, .int .i64 b1.2.2] 92)), lt_of_row (blk_new w4 (Obj.cells #[.bool (negS b1.1 b1.2.1), .slice fo lf cf, .int .i64 b1.2.2] 92)), by omega⟩
  obtain ⟨x0, x1, x2, x3, x4, x5, -, -, -, -, -, -⟩ := blk6 (blk_below E0 hb4)
  obtain ⟨y0, y1, y2, y3, y4, y5, -, -, -, -, -, -⟩ := blk6 (blk_below EB hb4)
  have lx := lt_of_row (blk_below E0 hb4)
  have ly := lt_of_row (blk_below EB hb4)
  clear E0 E1 EB EL hW3 hb4 hS4 hlf hnf hga hgb hgc
  go_wp2_with fail
  clear x0 x1 x2 x3 x4 x5 y0 y1 y2 y3 y4 y5 lx ly
  generalize hgd : w4.heap.size = gd at *
  generalize w4.alloc (Obj.cells #[.bool (negS b1.1 b1.2.1), .slice fo lf cf, .int .i64 b1.2.2] 92) = u at *
  refine Calls.mono (negated_g a2 _ bo lb cb LB.out NB.out) ?_
  rintro e v0 ⟨o0, l0, c0, rfl, hl0, hn0, hbk⟩
  have m2 := m1.out.below hbk
  have NA2 := NA.out.below hbk (Nat.le_refl _)
  obtain ⟨x0, x1, x2, -, -, -, -, -, -, -, -, -⟩ := blk6 m2.k0
  have lx := lt_of_row m2.k0
  have M2 : Hid (ESt w u (v0.alloc (Obj.cells #[.bool (negS a2.1 a2.2.1), .slice o0 l0 c0, .int .i64 a2.2.2] 92)) _ _ _ _ _ _ _ _ _) := m2.alloc _
  have NA3 : Hid (NatV (v0.alloc (Obj.cells #[.bool (negS a2.1 a2.2.1), .slice o0 l0 c0, .int .i64 a2.2.2] 92)) (.slice ao la ca) _) := NA2.below ((Below.refl _ _).alloc (Nat.le_refl _) _) (Nat.le_refl _)
  have NX : Hid (NatV (v0.alloc (Obj.cells #[.bool (negS a2.1 a2.2.1), .slice o0 l0 c0, .int .i64 a2.2.2] 92)) (.slice o0 l0 c0) _) := hn0.below ((Below.refl _ _).alloc (Nat.le_refl _) _) (Nat.le_refl _)
  have LX : Hid (l0 = _) := hl0
  have B0 := blk_new v0 (Obj.cells #[.bool (negS a2.1 a2.2.1), .slice o0 l0 c0, .int .i64 a2.2.2] 92)
  clear m2 NA2 hn0 hl0 hbk
  go_wp2_with fail
  clear x0 x1 x2 lx
  generalize hg5 : v0.heap.size = g5 at *
  generalize v0.alloc (Obj.cells #[.bool (negS a2.1 a2.2.1), .slice o0 l0 c0, .int .i64 a2.2.2] 92) = V0 at *
  refine Calls.mono (negated_g a1 _ ao la ca LA.out NA3.out) ?_
  rintro e v1 ⟨o1, l1, c1, rfl, hl1, hn1, hbk⟩
  have NX2 := NX.out.below hbk (Nat.le_refl _)
  have M3 : Hid (ESt w u (v1.alloc (Obj.cells #[.bool (negS a1.1 a1.2.1), .slice o1 l1 c1, .int .i64 a1.2.2] 92)) _ _ _ _ _ _ _ _ _) := (M2.out.below hbk).alloc _
  have NX3 : Hid (NatV (v1.alloc (Obj.cells #[.bool (negS a1.1 a1.2.1), .slice o1 l1 c1, .int .i64 a1.2.2] 92)) (.slice o0 l0 c0) _) := NX2.below ((Below.refl _ _).alloc (Nat.le_refl _) _) (Nat.le_refl _)
  have NY : Hid (NatV (v1.alloc (Obj.cells #[.bool (negS a1.1 a1.2.1), .slice o1 l1 c1, .int .i64 a1.2.2] 92)) (.slice o1 l1 c1) _) := hn1.below ((Below.refl _ _).alloc (Nat.le_refl _) _) (Nat.le_refl _)
  have LY : Hid (l1 = _) := hl1
  obtain ⟨z0, z1, z2, -, -, -⟩ := blk3 (blk_below B0 hbk)
  have lz := lt_of_row (blk_below B0 hbk)
  clear NX2 hn1 hl1 hbk B0 M2
  go_wp2_with fail
  refine Calls.mono (HAR.out _ o0 o1 l0 l1 c0 c1 LX.out LY.out NX3.out NY.out) ?_
  rintro ev v2 ⟨rfl, hb9⟩
  have m9 : Hid (ESt w u v2 _ _ _ _ _ _ _ _ _) := M3.out.below hb9
  clear hb9 z0 z1 z2 lz M3
  obtain ⟨q0, q1, q2, q3⟩ := blk2 m9.out.k2
  have lq := lt_of_row m9.out.k2
  go_wp2_with fail
  obtain ⟨p0, p1, -, -⟩ := blk2 (blk_old (blk_store2 (a := .int .u64 (r1 : Int)) (b := .int .u64 (r2 : Int)) m9.out.k2) (Obj.cells #[.int .u64 (r1 : Int), .int .u64 (r2 : Int)] 28))
  refine bodyPost_ret (v := .tuple #[.agg #[.int .u64 (r1 : Int), .int .u64 (r2 : Int)], .int .i64 0, .string ⟨#[]⟩]) (by simp [results, Tryz.results29, go_sem, p0, p1]) rfl ?_
  exact ⟨rfl, ((m9.out.hb.setCell (by exact m9.out.l2) _).setCell (by exact m9.out.l2) _).alloc (by simp only [World.size_setCell]; exact m9.out.hb.size) _⟩

set_option maxHeartbeats 20000000 in
set_option maxRecDepth 100000 in
theorem refOp_hull (xl xh yl yh : Nat) (a1 a2 b1 b2 : Bool × Nat × Int) (r1 r2 r3 : Nat) (w : World) (hx : MadeG #[.agg #[.int .u64 (xl : Int), .int .u64 (xh : Int)]] a1 a2) (hy : MadeG #[.agg #[.int .u64 (yl : Int), .int .u64 (yh : Int)]] b1 b2) (hr : ∀ (g : Nat) (W : World) (o0 o1 o2 o3 : Option Addr) (l0 l1 l2 l3 c0 c1 c2 c3 : Nat), W.heap[g]? = some (.cells #[.bool a1.1, .slice o0 l0 c0, .int .i64 a1.2.2, .bool a2.1, .slice o1 l1 c1, .int .i64 a2.2.2, .bool b1.1, .slice o2 l2 c2, .int .i64 b1.2.2, .bool b2.1, .slice o3 l3 c3, .int .i64 b2.2.2] 92 (0, 0)) → l0 = (digits a1.2.1).length → l1 = (digits a2.2.1).length → l2 = (digits b1.2.1).length → l3 = (digits b2.2.1).length → NatV W (.slice o0 l0 c0) a1.2.1 → NatV W (.slice o1 l1 c1) a2.2.1 → NatV W (.slice o2 l2 c2) b1.2.1 → NatV W (.slice o3 l3 c3) b2.2.1 → Calls Tryz.prog 63 #[.slice (some ⟨g, 0, none⟩) 4 4] W fun ev w' => ev = .returned (.tuple #[.agg #[.int .u64 (r1 : Int), .int .u64 (r2 : Int)], .int .i64 (r3 : Int)]) ∧ Below W.heap.size W w') :
    Calls Tryz.prog 29 #[.int .i64 1, .agg #[.int .u64 (xl : Int), .int .u64 (xh : Int)], .agg #[.int .u64 (yl : Int), .int .u64 (yh : Int)]] w fun e w' => e = .returned (.tuple #[.agg #[.int .u64 (((r1, r2, 0, ⟨#[]⟩) : Nat × Nat × Nat × ByteArray).1 : Int), .int .u64 (((r1, r2, 0, ⟨#[]⟩) : Nat × Nat × Nat × ByteArray).2.1 : Int)], .int .i64 (((r1, r2, 0, ⟨#[]⟩) : Nat × Nat × Nat × ByteArray).2.2.1 : Int), .string ((r1, r2, 0, ⟨#[]⟩) : Nat × Nat × Nat × ByteArray).2.2.2]) ∧ Below w.heap.size w w' := by
  have HX : Hid (MadeG #[.agg #[.int .u64 (xl : Int), .int .u64 (xh : Int)]] a1 a2) := hx
  have HY : Hid (MadeG #[.agg #[.int .u64 (yl : Int), .int .u64 (yh : Int)]] b1 b2) := hy
  clear hx hy
  have HSP : Hid (∀ (g : Nat) (W : World) (o0 o1 o2 o3 : Option Addr) (l0 l1 l2 l3 c0 c1 c2 c3 : Nat), W.heap[g]? = some (.cells #[.bool a1.1, .slice o0 l0 c0, .int .i64 a1.2.2, .bool a2.1, .slice o1 l1 c1, .int .i64 a2.2.2, .bool b1.1, .slice o2 l2 c2, .int .i64 b1.2.2, .bool b2.1, .slice o3 l3 c3, .int .i64 b2.2.2] 92 (0, 0)) → l0 = (digits a1.2.1).length → l1 = (digits a2.2.1).length → l2 = (digits b1.2.1).length → l3 = (digits b2.2.1).length → NatV W (.slice o0 l0 c0) a1.2.1 → NatV W (.slice o1 l1 c1) a2.2.1 → NatV W (.slice o2 l2 c2) b1.2.1 → NatV W (.slice o3 l3 c3) b2.2.1 → Calls Tryz.prog 63 #[.slice (some ⟨g, 0, none⟩) 4 4] W fun ev w' => ev = .returned (.tuple #[.agg #[.int .u64 (r1 : Int), .int .u64 (r2 : Int)], .int .i64 (r3 : Int)]) ∧ Below W.heap.size W w') := hr
  clear hr
  go_enter Tryz.func29, Tryz.ntmps29
  go_wp2_with fail
  have B1 := blk_old (blk_new (w.alloc (Obj.cells #[.int .u64 (xl : Int), .int .u64 (xh : Int)] 28)) (Obj.cells #[.int .u64 (yl : Int), .int .u64 (yh : Int)] 28)) (Obj.cells #[.int .u64 0, .int .u64 0] 28)
  have B2 := blk_new ((w.alloc (Obj.cells #[.int .u64 (xl : Int), .int .u64 (xh : Int)] 28)).alloc (Obj.cells #[.int .u64 (yl : Int), .int .u64 (yh : Int)] 28)) (Obj.cells #[.int .u64 0, .int .u64 0] 28)
  have hW : Below w.heap.size w (((w.alloc (Obj.cells #[.int .u64 (xl : Int), .int .u64 (xh : Int)] 28)).alloc (Obj.cells #[.int .u64 (yl : Int), .int .u64 (yh : Int)] 28)).alloc (Obj.cells #[.int .u64 0, .int .u64 0] 28)) := (((Below.refl _ _).alloc (Nat.le_refl _) _).alloc (by simp) _).alloc (by simp; omega) _
  simp only [World.size_alloc] at B1 B2
  generalize (((w.alloc (Obj.cells #[.int .u64 (xl : Int), .int .u64 (xh : Int)] 28)).alloc (Obj.cells #[.int .u64 (yl : Int), .int .u64 (yh : Int)] 28)).alloc (Obj.cells #[.int .u64 0, .int .u64 0] 28)) = W2 at *
  refine Calls.mono (HX.out _) ?_
  rintro e w1 ⟨ao, la, ca, bo, lb, cb, rfl, hla, hlb, hna, hnb, hb1⟩
  have LA : Hid (la = _) := hla
  have LB : Hid (lb = _) := hlb
  have NA : Hid (NatV (w1.alloc (Obj.cells #[.bool a1.1, .slice ao la ca, .int .i64 a1.2.2, .bool a2.1, .slice bo lb cb, .int .i64 a2.2.2] 98)) (.slice ao la ca) _) := hna.below ((Below.refl _ _).alloc (Nat.le_refl _) _) (Nat.le_refl _)
  have NB : Hid (NatV (w1.alloc (Obj.cells #[.bool a1.1, .slice ao la ca, .int .i64 a1.2.2, .bool a2.1, .slice bo lb cb, .int .i64 a2.2.2] 98)) (.slice bo lb cb) _) := hnb.below ((Below.refl _ _).alloc (Nat.le_refl _) _) (Nat.le_refl _)
  have C1 := blk_old (blk_below B1 hb1) (Obj.cells #[.bool a1.1, .slice ao la ca, .int .i64 a1.2.2, .bool a2.1, .slice bo lb cb, .int .i64 a2.2.2] 98)
  have C2 := blk_old (blk_below B2 hb1) (Obj.cells #[.bool a1.1, .slice ao la ca, .int .i64 a1.2.2, .bool a2.1, .slice bo lb cb, .int .i64 a2.2.2] 98)
  have C0 := blk_new w1 (Obj.cells #[.bool a1.1, .slice ao la ca, .int .i64 a1.2.2, .bool a2.1, .slice bo lb cb, .int .i64 a2.2.2] 98)
  have hW1 : Below w.heap.size w (w1.alloc (Obj.cells #[.bool a1.1, .slice ao la ca, .int .i64 a1.2.2, .bool a2.1, .slice bo lb cb, .int .i64 a2.2.2] 98)) := (hW.trans (hb1.mono hW.size)).alloc (Nat.le_trans hW.size hb1.size) _
  obtain ⟨y0, y1, -, -⟩ := blk2 (blk_below B1 hb1)
  have ly := lt_of_row (blk_below B1 hb1)
  clear B1 B2 hW hb1 hla hlb hna hnb HX
  go_wp2_with fail
  clear y0 y1 ly
  generalize hga : w1.heap.size = ga at *
  generalize w1.alloc (Obj.cells #[.bool a1.1, .slice ao la ca, .int .i64 a1.2.2, .bool a2.1, .slice bo lb cb, .int .i64 a2.2.2] 98) = W3 at *
  refine Calls.mono (HY.out _) ?_
  rintro e w2 ⟨co, lc, cc, do_, ld, cd, rfl, hlc, hld, hnc, hnd, hb2⟩
  have LC : Hid (lc = _) := hlc
  have LD : Hid (ld = _) := hld
  have D1 := blk_old (blk_below C2 hb2) (Obj.cells #[.bool b1.1, .slice co lc cc, .int .i64 b1.2.2, .bool b2.1, .slice do_ ld cd, .int .i64 b2.2.2] 98)
  have D0 := blk_old (blk_below C0 hb2) (Obj.cells #[.bool b1.1, .slice co lc cc, .int .i64 b1.2.2, .bool b2.1, .slice do_ ld cd, .int .i64 b2.2.2] 98)
  have DB := blk_new w2 (Obj.cells #[.bool b1.1, .slice co lc cc, .int .i64 b1.2.2, .bool b2.1, .slice do_ ld cd, .int .i64 b2.2.2] 98)
  have hW2 : Below w.heap.size w (w2.alloc (Obj.cells #[.bool b1.1, .slice co lc cc, .int .i64 b1.2.2, .bool b2.1, .slice do_ ld cd, .int .i64 b2.2.2] 98)) := (hW1.trans (hb2.mono hW1.size)).alloc (Nat.le_trans hW1.size hb2.size) _
  have hS2 : Below W3.heap.size W3 (w2.alloc (Obj.cells #[.bool b1.1, .slice co lc cc, .int .i64 b1.2.2, .bool b2.1, .slice do_ ld cd, .int .i64 b2.2.2] 98)) := hb2.alloc hb2.size _
  have NA : Hid (NatV (w2.alloc (Obj.cells #[.bool b1.1, .slice co lc cc, .int .i64 b1.2.2, .bool b2.1, .slice do_ ld cd, .int .i64 b2.2.2] 98)) (.slice ao la ca) _) := NA.out.below hS2 (Nat.le_refl _)
  have NB : Hid (NatV (w2.alloc (Obj.cells #[.bool b1.1, .slice co lc cc, .int .i64 b1.2.2, .bool b2.1, .slice do_ ld cd, .int .i64 b2.2.2] 98)) (.slice bo lb cb) _) := NB.out.below hS2 (Nat.le_refl _)
  have NC : Hid (NatV (w2.alloc (Obj.cells #[.bool b1.1, .slice co lc cc, .int .i64 b1.2.2, .bool b2.1, .slice do_ ld cd, .int .i64 b2.2.2] 98)) (.slice co lc cc) _) := hnc.below ((Below.refl _ _).alloc (Nat.le_refl _) _) (Nat.le_refl _)
  have ND : Hid (NatV (w2.alloc (Obj.cells #[.bool b1.1, .slice co lc cc, .int .i64 b1.2.2, .bool b2.1, .slice do_ ld cd, .int .i64 b2.2.2] 98)) (.slice do_ ld cd) _) := hnd.below ((Below.refl _ _).alloc (Nat.le_refl _) _) (Nat.le_refl _)
  clear C0 C1 C2 hW1 hb2 hS2 hlc hld hnc hnd HY
  go_wp2_with fail
  generalize hgb : w2.heap.size = gb at *
  generalize w2.alloc (Obj.cells #[.bool b1.1, .slice co lc cc, .int .i64 b1.2.2, .bool b2.1, .slice do_ ld cd, .int .i64 b2.2.2] 98) = W4 at *
  refine Calls.mono (negated_g b2 _ do_ ld cd LD.out ND.out) ?_
  rintro e w3 ⟨eo, le, ce, rfl, hle, hne, hb3⟩
  have LE : Hid (le = _) := hle
  have hS3 : Below W4.heap.size W4 (w3.alloc (Obj.cells #[.bool (negS b2.1 b2.2.1), .slice eo le ce, .int .i64 b2.2.2] 92)) := hb3.alloc hb3.size _
  have E1 := blk_old (blk_below D1 hb3) (Obj.cells #[.bool (negS b2.1 b2.2.1), .slice eo le ce, .int .i64 b2.2.2] 92)
  have E0 := blk_old (blk_below D0 hb3) (Obj.cells #[.bool (negS b2.1 b2.2.1), .slice eo le ce, .int .i64 b2.2.2] 92)
  have EB := blk_old (blk_below DB hb3) (Obj.cells #[.bool (negS b2.1 b2.2.1), .slice eo le ce, .int .i64 b2.2.2] 92)
  have EL := blk_new w3 (Obj.cells #[.bool (negS b2.1 b2.2.1), .slice eo le ce, .int .i64 b2.2.2] 92)
  have hW3 : Below w.heap.size w (w3.alloc (Obj.cells #[.bool (negS b2.1 b2.2.1), .slice eo le ce, .int .i64 b2.2.2] 92)) := (hW2.trans (hb3.mono hW2.size)).alloc (Nat.le_trans hW2.size hb3.size) _
  have NA : Hid (NatV (w3.alloc (Obj.cells #[.bool (negS b2.1 b2.2.1), .slice eo le ce, .int .i64 b2.2.2] 92)) (.slice ao la ca) _) := NA.out.below hS3 (Nat.le_refl _)
  have NB : Hid (NatV (w3.alloc (Obj.cells #[.bool (negS b2.1 b2.2.1), .slice eo le ce, .int .i64 b2.2.2] 92)) (.slice bo lb cb) _) := NB.out.below hS3 (Nat.le_refl _)
  have NC : Hid (NatV (w3.alloc (Obj.cells #[.bool (negS b2.1 b2.2.1), .slice eo le ce, .int .i64 b2.2.2] 92)) (.slice co lc cc) _) := NC.out.below hS3 (Nat.le_refl _)
  have ND : Hid (NatV (w3.alloc (Obj.cells #[.bool (negS b2.1 b2.2.1), .slice eo le ce, .int .i64 b2.2.2] 92)) (.slice do_ ld cd) _) := ND.out.below hS3 (Nat.le_refl _)
  have NE : Hid (NatV (w3.alloc (Obj.cells #[.bool (negS b2.1 b2.2.1), .slice eo le ce, .int .i64 b2.2.2] 92)) (.slice eo le ce) _) := hne.below ((Below.refl _ _).alloc (Nat.le_refl _) _) (Nat.le_refl _)
  obtain ⟨y0, y1, y2, -, -, -, -, -, -, -, -, -⟩ := blk6 (blk_below DB hb3)
  have ly := lt_of_row (blk_below DB hb3)
  clear D0 D1 DB hW2 hb3 hS3 hle hne
  go_wp2_with fail
  clear y0 y1 y2 ly
  generalize hgc : w3.heap.size = gc at *
  generalize w3.alloc (Obj.cells #[.bool (negS b2.1 b2.2.1), .slice eo le ce, .int .i64 b2.2.2] 92) = W5 at *
  refine Calls.mono (negated_g b1 _ co lc cc LC.out NC.out) ?_
  rintro e w4 ⟨fo, lf, cf, rfl, hlf, hnf, hb4⟩
  have LF : Hid (lf = _) := hlf
  have hS4 : Below W5.heap.size W5 (w4.alloc (Obj.cells #[.bool (negS b1.1 b1.2.1), .slice fo lf cf, .int .i64 b1.2.2] 92)) := hb4.alloc hb4.size _
  have NA : Hid (NatV (w4.alloc (Obj.cells #[.bool (negS b1.1 b1.2.1), .slice fo lf cf, .int .i64 b1.2.2] 92)) (.slice ao la ca) _) := NA.out.below hS4 (Nat.le_refl _)
  have NB : Hid (NatV (w4.alloc (Obj.cells #[.bool (negS b1.1 b1.2.1), .slice fo lf cf, .int .i64 b1.2.2] 92)) (.slice bo lb cb) _) := NB.out.below hS4 (Nat.le_refl _)
  have NC : Hid (NatV (w4.alloc (Obj.cells #[.bool (negS b1.1 b1.2.1), .slice fo lf cf, .int .i64 b1.2.2] 92)) (.slice co lc cc) _) := NC.out.below hS4 (Nat.le_refl _)
  have ND : Hid (NatV (w4.alloc (Obj.cells #[.bool (negS b1.1 b1.2.1), .slice fo lf cf, .int .i64 b1.2.2] 92)) (.slice do_ ld cd) _) := ND.out.below hS4 (Nat.le_refl _)
  have NE : Hid (NatV (w4.alloc (Obj.cells #[.bool (negS b1.1 b1.2.1), .slice fo lf cf, .int .i64 b1.2.2] 92)) (.slice eo le ce) _) := NE.out.below hS4 (Nat.le_refl _)
  have NF : Hid (NatV (w4.alloc (Obj.cells #[.bool (negS b1.1 b1.2.1), .slice fo lf cf, .int .i64 b1.2.2] 92)) (.slice fo lf cf) _) := hnf.below ((Below.refl _ _).alloc (Nat.le_refl _) _) (Nat.le_refl _)
  have m1 : Hid (ESt w (w4.alloc (Obj.cells #[.bool (negS b1.1 b1.2.1), .slice fo lf cf, .int .i64 b1.2.2] 92)) (w4.alloc (Obj.cells #[.bool (negS b1.1 b1.2.1), .slice fo lf cf, .int .i64 b1.2.2] 92)) (w.heap.size + 1 + 1) ga gb gc w4.heap.size #[.bool a1.1, .slice ao la ca, .int .i64 a1.2.2, .bool a2.1, .slice bo lb cb, .int .i64 a2.2.2] #[.bool b1.1, .slice co lc cc, .int .i64 b1.2.2, .bool b2.1, .slice do_ ld cd, .int .i64 b2.2.2] #[.bool (negS b2.1 b2.2.1), .slice eo le ce, .int .i64 b2.2.2] #[.bool (negS b1.1 b1.2.1), .slice fo lf cf, .int .i64 b1.2.2]) :=
    ⟨blk_old (blk_below E0 hb4) _, blk_old (blk_below EB hb4) _, blk_old (blk_below E1 hb4) _, blk_old (blk_below EL hb4) _, blk_new w4 _, (hW3.trans (hb4.mono hW3.size)).alloc (Nat.le_trans hW3.size hb4.size) _, Below.refl _ _, lt_of_row (blk_old (blk_below E0 hb4) (Obj.cells #[.bool (negS b1.1 b1.2.1), .slice fo lf cf, .int .i64 b1.2.2] 92)), lt_of_row (blk_old (blk_below EB hb4) (Obj.cells #[.bool (negS b1.1 b1.2.1), .slice fo lf cf, .int .i64 b1.2.2] 92)), lt_of_row (blk_old (blk_below E1 hb4) (Obj.cells #[.bool (negS b1.1 b1.2.1), .slice fo lf cf, .int .i64 b1.2.2] 92)), lt_of_row (blk_old (blk_below EL hb4) (Obj.cells #[.bool (negS b1.1 b1.2.1), .slice fo lf cf, .int .i64 b1.2.2] 92)), lt_of_row (blk_new w4 (Obj.cells #[.bool (negS b1.1 b1.2.1), .slice fo lf cf, .int .i64 b1.2.2] 92)), by omega⟩
  obtain ⟨x0, x1, x2, x3, x4, x5, -, -, -, -, -, -⟩ := blk6 (blk_below E0 hb4)
  obtain ⟨y0, y1, y2, y3, y4, y5, -, -, -, -, -, -⟩ := blk6 (blk_below EB hb4)
  have lx := lt_of_row (blk_below E0 hb4)
  have ly := lt_of_row (blk_below EB hb4)
  clear E0 E1 EB EL hW3 hb4 hS4 hlf hnf hga hgb hgc
  go_wp2_with fail
  clear x0 x1 x2 x3 x4 x5 y0 y1 y2 y3 y4 y5 lx ly
  have hgx := blk_new (w4.alloc (Obj.cells #[.bool (negS b1.1 b1.2.1), .slice fo lf cf, .int .i64 b1.2.2] 92)) (Obj.cells #[.bool a1.1, .slice ao la ca, .int .i64 a1.2.2, .bool a2.1, .slice bo lb cb, .int .i64 a2.2.2, .bool b1.1, .slice co lc cc, .int .i64 b1.2.2, .bool b2.1, .slice do_ ld cd, .int .i64 b2.2.2] 92)
  simp only [World.size_alloc] at hgx
  refine Calls.mono (HSP.out _ _ ao bo co do_ la lb lc ld ca cb cc cd hgx LA.out LB.out LC.out LD.out (NA.out.below ((Below.refl _ (w4.alloc (Obj.cells #[.bool (negS b1.1 b1.2.1), .slice fo lf cf, .int .i64 b1.2.2] 92))).alloc (Nat.le_refl _) _) (Nat.le_refl _)) (NB.out.below ((Below.refl _ (w4.alloc (Obj.cells #[.bool (negS b1.1 b1.2.1), .slice fo lf cf, .int .i64 b1.2.2] 92))).alloc (Nat.le_refl _) _) (Nat.le_refl _)) (NC.out.below ((Below.refl _ (w4.alloc (Obj.cells #[.bool (negS b1.1 b1.2.1), .slice fo lf cf, .int .i64 b1.2.2] 92))).alloc (Nat.le_refl _) _) (Nat.le_refl _)) (ND.out.below ((Below.refl _ (w4.alloc (Obj.cells #[.bool (negS b1.1 b1.2.1), .slice fo lf cf, .int .i64 b1.2.2] 92))).alloc (Nat.le_refl _) _) (Nat.le_refl _))) ?_
  rintro ev v2 ⟨rfl, hb9⟩
  have m9 : Hid (ESt w (w4.alloc (Obj.cells #[.bool (negS b1.1 b1.2.1), .slice fo lf cf, .int .i64 b1.2.2] 92)) v2 _ _ _ _ _ _ _ _ _) := (m1.out.alloc _).below hb9
  clear hb9 hgx
  obtain ⟨q0, q1, q2, q3⟩ := blk2 m9.out.k2
  have lq := lt_of_row m9.out.k2
  go_wp2_with fail
  obtain ⟨p0, p1, -, -⟩ := blk2 (blk_old (blk_store2 (a := .int .u64 (r1 : Int)) (b := .int .u64 (r2 : Int)) m9.out.k2) (Obj.cells #[.int .u64 (r1 : Int), .int .u64 (r2 : Int)] 28))
  refine bodyPost_ret (v := .tuple #[.agg #[.int .u64 (r1 : Int), .int .u64 (r2 : Int)], .int .i64 0, .string ⟨#[]⟩]) (by simp [results, Tryz.results29, go_sem, p0, p1]) rfl ?_
  exact ⟨rfl, ((m9.out.hb.setCell (by exact m9.out.l2) _).setCell (by exact m9.out.l2) _).alloc (by simp only [World.size_setCell]; exact m9.out.hb.size) _⟩

set_option maxHeartbeats 20000000 in
set_option maxRecDepth 100000 in
theorem refOp_meet (xl xh yl yh : Nat) (a1 a2 b1 b2 : Bool × Nat × Int) (r1 r2 r3 : Nat) (rs : ByteArray) (w : World) (hx : MadeG #[.agg #[.int .u64 (xl : Int), .int .u64 (xh : Int)]] a1 a2) (hy : MadeG #[.agg #[.int .u64 (yl : Int), .int .u64 (yh : Int)]] b1 b2) (hr : ∀ (W : World) (va vb : Value), IvV W va a1 a2 → IvV W vb b1 b2 → Calls Tryz.prog 64 #[va, vb] W fun e w' => e = .returned (.tuple #[.agg #[.int .u64 (r1 : Int), .int .u64 (r2 : Int)], .int .i64 (r3 : Int), .string rs]) ∧ Below W.heap.size W w') :
    Calls Tryz.prog 29 #[.int .i64 2, .agg #[.int .u64 (xl : Int), .int .u64 (xh : Int)], .agg #[.int .u64 (yl : Int), .int .u64 (yh : Int)]] w fun e w' => e = .returned (.tuple #[.agg #[.int .u64 (((r1, r2, r3, rs) : Nat × Nat × Nat × ByteArray).1 : Int), .int .u64 (((r1, r2, r3, rs) : Nat × Nat × Nat × ByteArray).2.1 : Int)], .int .i64 (((r1, r2, r3, rs) : Nat × Nat × Nat × ByteArray).2.2.1 : Int), .string ((r1, r2, r3, rs) : Nat × Nat × Nat × ByteArray).2.2.2]) ∧ Below w.heap.size w w' := by
  have HX : Hid (MadeG #[.agg #[.int .u64 (xl : Int), .int .u64 (xh : Int)]] a1 a2) := hx
  have HY : Hid (MadeG #[.agg #[.int .u64 (yl : Int), .int .u64 (yh : Int)]] b1 b2) := hy
  clear hx hy
  have HME : Hid (∀ (W : World) (va vb : Value), IvV W va a1 a2 → IvV W vb b1 b2 → Calls Tryz.prog 64 #[va, vb] W fun e w' => e = .returned (.tuple #[.agg #[.int .u64 (r1 : Int), .int .u64 (r2 : Int)], .int .i64 (r3 : Int), .string rs]) ∧ Below W.heap.size W w') := hr
  clear hr
  go_enter Tryz.func29, Tryz.ntmps29
  go_wp2_with fail
  have B1 := blk_old (blk_new (w.alloc (Obj.cells #[.int .u64 (xl : Int), .int .u64 (xh : Int)] 28)) (Obj.cells #[.int .u64 (yl : Int), .int .u64 (yh : Int)] 28)) (Obj.cells #[.int .u64 0, .int .u64 0] 28)
  have B2 := blk_new ((w.alloc (Obj.cells #[.int .u64 (xl : Int), .int .u64 (xh : Int)] 28)).alloc (Obj.cells #[.int .u64 (yl : Int), .int .u64 (yh : Int)] 28)) (Obj.cells #[.int .u64 0, .int .u64 0] 28)
  have hW : Below w.heap.size w (((w.alloc (Obj.cells #[.int .u64 (xl : Int), .int .u64 (xh : Int)] 28)).alloc (Obj.cells #[.int .u64 (yl : Int), .int .u64 (yh : Int)] 28)).alloc (Obj.cells #[.int .u64 0, .int .u64 0] 28)) := (((Below.refl _ _).alloc (Nat.le_refl _) _).alloc (by simp) _).alloc (by simp; omega) _
  simp only [World.size_alloc] at B1 B2
  generalize (((w.alloc (Obj.cells #[.int .u64 (xl : Int), .int .u64 (xh : Int)] 28)).alloc (Obj.cells #[.int .u64 (yl : Int), .int .u64 (yh : Int)] 28)).alloc (Obj.cells #[.int .u64 0, .int .u64 0] 28)) = W2 at *
  refine Calls.mono (HX.out _) ?_
  rintro e w1 ⟨ao, la, ca, bo, lb, cb, rfl, hla, hlb, hna, hnb, hb1⟩
  have LA : Hid (la = _) := hla
  have LB : Hid (lb = _) := hlb
  have NA : Hid (NatV (w1.alloc (Obj.cells #[.bool a1.1, .slice ao la ca, .int .i64 a1.2.2, .bool a2.1, .slice bo lb cb, .int .i64 a2.2.2] 98)) (.slice ao la ca) _) := hna.below ((Below.refl _ _).alloc (Nat.le_refl _) _) (Nat.le_refl _)
  have NB : Hid (NatV (w1.alloc (Obj.cells #[.bool a1.1, .slice ao la ca, .int .i64 a1.2.2, .bool a2.1, .slice bo lb cb, .int .i64 a2.2.2] 98)) (.slice bo lb cb) _) := hnb.below ((Below.refl _ _).alloc (Nat.le_refl _) _) (Nat.le_refl _)
  have C1 := blk_old (blk_below B1 hb1) (Obj.cells #[.bool a1.1, .slice ao la ca, .int .i64 a1.2.2, .bool a2.1, .slice bo lb cb, .int .i64 a2.2.2] 98)
  have C2 := blk_old (blk_below B2 hb1) (Obj.cells #[.bool a1.1, .slice ao la ca, .int .i64 a1.2.2, .bool a2.1, .slice bo lb cb, .int .i64 a2.2.2] 98)
  have C0 := blk_new w1 (Obj.cells #[.bool a1.1, .slice ao la ca, .int .i64 a1.2.2, .bool a2.1, .slice bo lb cb, .int .i64 a2.2.2] 98)
  have hW1 : Below w.heap.size w (w1.alloc (Obj.cells #[.bool a1.1, .slice ao la ca, .int .i64 a1.2.2, .bool a2.1, .slice bo lb cb, .int .i64 a2.2.2] 98)) := (hW.trans (hb1.mono hW.size)).alloc (Nat.le_trans hW.size hb1.size) _
  obtain ⟨y0, y1, -, -⟩ := blk2 (blk_below B1 hb1)
  have ly := lt_of_row (blk_below B1 hb1)
  clear B1 B2 hW hb1 hla hlb hna hnb HX
  go_wp2_with fail
  clear y0 y1 ly
  generalize hga : w1.heap.size = ga at *
  generalize w1.alloc (Obj.cells #[.bool a1.1, .slice ao la ca, .int .i64 a1.2.2, .bool a2.1, .slice bo lb cb, .int .i64 a2.2.2] 98) = W3 at *
  refine Calls.mono (HY.out _) ?_
  rintro e w2 ⟨co, lc, cc, do_, ld, cd, rfl, hlc, hld, hnc, hnd, hb2⟩
  have LC : Hid (lc = _) := hlc
  have LD : Hid (ld = _) := hld
  have D1 := blk_old (blk_below C2 hb2) (Obj.cells #[.bool b1.1, .slice co lc cc, .int .i64 b1.2.2, .bool b2.1, .slice do_ ld cd, .int .i64 b2.2.2] 98)
  have D0 := blk_old (blk_below C0 hb2) (Obj.cells #[.bool b1.1, .slice co lc cc, .int .i64 b1.2.2, .bool b2.1, .slice do_ ld cd, .int .i64 b2.2.2] 98)
  have DB := blk_new w2 (Obj.cells #[.bool b1.1, .slice co lc cc, .int .i64 b1.2.2, .bool b2.1, .slice do_ ld cd, .int .i64 b2.2.2] 98)
  have hW2 : Below w.heap.size w (w2.alloc (Obj.cells #[.bool b1.1, .slice co lc cc, .int .i64 b1.2.2, .bool b2.1, .slice do_ ld cd, .int .i64 b2.2.2] 98)) := (hW1.trans (hb2.mono hW1.size)).alloc (Nat.le_trans hW1.size hb2.size) _
  have hS2 : Below W3.heap.size W3 (w2.alloc (Obj.cells #[.bool b1.1, .slice co lc cc, .int .i64 b1.2.2, .bool b2.1, .slice do_ ld cd, .int .i64 b2.2.2] 98)) := hb2.alloc hb2.size _
  have NA : Hid (NatV (w2.alloc (Obj.cells #[.bool b1.1, .slice co lc cc, .int .i64 b1.2.2, .bool b2.1, .slice do_ ld cd, .int .i64 b2.2.2] 98)) (.slice ao la ca) _) := NA.out.below hS2 (Nat.le_refl _)
  have NB : Hid (NatV (w2.alloc (Obj.cells #[.bool b1.1, .slice co lc cc, .int .i64 b1.2.2, .bool b2.1, .slice do_ ld cd, .int .i64 b2.2.2] 98)) (.slice bo lb cb) _) := NB.out.below hS2 (Nat.le_refl _)
  have NC : Hid (NatV (w2.alloc (Obj.cells #[.bool b1.1, .slice co lc cc, .int .i64 b1.2.2, .bool b2.1, .slice do_ ld cd, .int .i64 b2.2.2] 98)) (.slice co lc cc) _) := hnc.below ((Below.refl _ _).alloc (Nat.le_refl _) _) (Nat.le_refl _)
  have ND : Hid (NatV (w2.alloc (Obj.cells #[.bool b1.1, .slice co lc cc, .int .i64 b1.2.2, .bool b2.1, .slice do_ ld cd, .int .i64 b2.2.2] 98)) (.slice do_ ld cd) _) := hnd.below ((Below.refl _ _).alloc (Nat.le_refl _) _) (Nat.le_refl _)
  clear C0 C1 C2 hW1 hb2 hS2 hlc hld hnc hnd HY
  go_wp2_with fail
  generalize hgb : w2.heap.size = gb at *
  generalize w2.alloc (Obj.cells #[.bool b1.1, .slice co lc cc, .int .i64 b1.2.2, .bool b2.1, .slice do_ ld cd, .int .i64 b2.2.2] 98) = W4 at *
  refine Calls.mono (negated_g b2 _ do_ ld cd LD.out ND.out) ?_
  rintro e w3 ⟨eo, le, ce, rfl, hle, hne, hb3⟩
  have LE : Hid (le = _) := hle
  have hS3 : Below W4.heap.size W4 (w3.alloc (Obj.cells #[.bool (negS b2.1 b2.2.1), .slice eo le ce, .int .i64 b2.2.2] 92)) := hb3.alloc hb3.size _
  have E1 := blk_old (blk_below D1 hb3) (Obj.cells #[.bool (negS b2.1 b2.2.1), .slice eo le ce, .int .i64 b2.2.2] 92)
  have E0 := blk_old (blk_below D0 hb3) (Obj.cells #[.bool (negS b2.1 b2.2.1), .slice eo le ce, .int .i64 b2.2.2] 92)
  have EB := blk_old (blk_below DB hb3) (Obj.cells #[.bool (negS b2.1 b2.2.1), .slice eo le ce, .int .i64 b2.2.2] 92)
  have EL := blk_new w3 (Obj.cells #[.bool (negS b2.1 b2.2.1), .slice eo le ce, .int .i64 b2.2.2] 92)
  have hW3 : Below w.heap.size w (w3.alloc (Obj.cells #[.bool (negS b2.1 b2.2.1), .slice eo le ce, .int .i64 b2.2.2] 92)) := (hW2.trans (hb3.mono hW2.size)).alloc (Nat.le_trans hW2.size hb3.size) _
  have NA : Hid (NatV (w3.alloc (Obj.cells #[.bool (negS b2.1 b2.2.1), .slice eo le ce, .int .i64 b2.2.2] 92)) (.slice ao la ca) _) := NA.out.below hS3 (Nat.le_refl _)
  have NB : Hid (NatV (w3.alloc (Obj.cells #[.bool (negS b2.1 b2.2.1), .slice eo le ce, .int .i64 b2.2.2] 92)) (.slice bo lb cb) _) := NB.out.below hS3 (Nat.le_refl _)
  have NC : Hid (NatV (w3.alloc (Obj.cells #[.bool (negS b2.1 b2.2.1), .slice eo le ce, .int .i64 b2.2.2] 92)) (.slice co lc cc) _) := NC.out.below hS3 (Nat.le_refl _)
  have ND : Hid (NatV (w3.alloc (Obj.cells #[.bool (negS b2.1 b2.2.1), .slice eo le ce, .int .i64 b2.2.2] 92)) (.slice do_ ld cd) _) := ND.out.below hS3 (Nat.le_refl _)
  have NE : Hid (NatV (w3.alloc (Obj.cells #[.bool (negS b2.1 b2.2.1), .slice eo le ce, .int .i64 b2.2.2] 92)) (.slice eo le ce) _) := hne.below ((Below.refl _ _).alloc (Nat.le_refl _) _) (Nat.le_refl _)
  obtain ⟨y0, y1, y2, -, -, -, -, -, -, -, -, -⟩ := blk6 (blk_below DB hb3)
  have ly := lt_of_row (blk_below DB hb3)
  clear D0 D1 DB hW2 hb3 hS3 hle hne
  go_wp2_with fail
  clear y0 y1 y2 ly
  generalize hgc : w3.heap.size = gc at *
  generalize w3.alloc (Obj.cells #[.bool (negS b2.1 b2.2.1), .slice eo le ce, .int .i64 b2.2.2] 92) = W5 at *
  refine Calls.mono (negated_g b1 _ co lc cc LC.out NC.out) ?_
  rintro e w4 ⟨fo, lf, cf, rfl, hlf, hnf, hb4⟩
  have LF : Hid (lf = _) := hlf
  have hS4 : Below W5.heap.size W5 (w4.alloc (Obj.cells #[.bool (negS b1.1 b1.2.1), .slice fo lf cf, .int .i64 b1.2.2] 92)) := hb4.alloc hb4.size _
  have NA : Hid (NatV (w4.alloc (Obj.cells #[.bool (negS b1.1 b1.2.1), .slice fo lf cf, .int .i64 b1.2.2] 92)) (.slice ao la ca) _) := NA.out.below hS4 (Nat.le_refl _)
  have NB : Hid (NatV (w4.alloc (Obj.cells #[.bool (negS b1.1 b1.2.1), .slice fo lf cf, .int .i64 b1.2.2] 92)) (.slice bo lb cb) _) := NB.out.below hS4 (Nat.le_refl _)
  have NC : Hid (NatV (w4.alloc (Obj.cells #[.bool (negS b1.1 b1.2.1), .slice fo lf cf, .int .i64 b1.2.2] 92)) (.slice co lc cc) _) := NC.out.below hS4 (Nat.le_refl _)
  have ND : Hid (NatV (w4.alloc (Obj.cells #[.bool (negS b1.1 b1.2.1), .slice fo lf cf, .int .i64 b1.2.2] 92)) (.slice do_ ld cd) _) := ND.out.below hS4 (Nat.le_refl _)
  have NE : Hid (NatV (w4.alloc (Obj.cells #[.bool (negS b1.1 b1.2.1), .slice fo lf cf, .int .i64 b1.2.2] 92)) (.slice eo le ce) _) := NE.out.below hS4 (Nat.le_refl _)
  have NF : Hid (NatV (w4.alloc (Obj.cells #[.bool (negS b1.1 b1.2.1), .slice fo lf cf, .int .i64 b1.2.2] 92)) (.slice fo lf cf) _) := hnf.below ((Below.refl _ _).alloc (Nat.le_refl _) _) (Nat.le_refl _)
  have m1 : Hid (ESt w (w4.alloc (Obj.cells #[.bool (negS b1.1 b1.2.1), .slice fo lf cf, .int .i64 b1.2.2] 92)) (w4.alloc (Obj.cells #[.bool (negS b1.1 b1.2.1), .slice fo lf cf, .int .i64 b1.2.2] 92)) (w.heap.size + 1 + 1) ga gb gc w4.heap.size #[.bool a1.1, .slice ao la ca, .int .i64 a1.2.2, .bool a2.1, .slice bo lb cb, .int .i64 a2.2.2] #[.bool b1.1, .slice co lc cc, .int .i64 b1.2.2, .bool b2.1, .slice do_ ld cd, .int .i64 b2.2.2] #[.bool (negS b2.1 b2.2.1), .slice eo le ce, .int .i64 b2.2.2] #[.bool (negS b1.1 b1.2.1), .slice fo lf cf, .int .i64 b1.2.2]) :=
    ⟨blk_old (blk_below E0 hb4) _, blk_old (blk_below EB hb4) _, blk_old (blk_below E1 hb4) _, blk_old (blk_below EL hb4) _, blk_new w4 _, (hW3.trans (hb4.mono hW3.size)).alloc (Nat.le_trans hW3.size hb4.size) _, Below.refl _ _, lt_of_row (blk_old (blk_below E0 hb4) (Obj.cells #[.bool (negS b1.1 b1.2.1), .slice fo lf cf, .int .i64 b1.2.2] 92)), lt_of_row (blk_old (blk_below EB hb4) (Obj.cells #[.bool (negS b1.1 b1.2.1), .slice fo lf cf, .int .i64 b1.2.2] 92)), lt_of_row (blk_old (blk_below E1 hb4) (Obj.cells #[.bool (negS b1.1 b1.2.1), .slice fo lf cf, .int .i64 b1.2.2] 92)), lt_of_row (blk_old (blk_below EL hb4) (Obj.cells #[.bool (negS b1.1 b1.2.1), .slice fo lf cf, .int .i64 b1.2.2] 92)), lt_of_row (blk_new w4 (Obj.cells #[.bool (negS b1.1 b1.2.1), .slice fo lf cf, .int .i64 b1.2.2] 92)), by omega⟩
  obtain ⟨x0, x1, x2, x3, x4, x5, -, -, -, -, -, -⟩ := blk6 (blk_below E0 hb4)
  obtain ⟨y0, y1, y2, y3, y4, y5, -, -, -, -, -, -⟩ := blk6 (blk_below EB hb4)
  have lx := lt_of_row (blk_below E0 hb4)
  have ly := lt_of_row (blk_below EB hb4)
  clear E0 E1 EB EL hW3 hb4 hS4 hlf hnf hga hgb hgc
  go_wp2_with fail
  clear x0 x1 x2 x3 x4 x5 y0 y1 y2 y3 y4 y5 lx ly
  generalize hgd : w4.heap.size = gd at *
  generalize w4.alloc (Obj.cells #[.bool (negS b1.1 b1.2.1), .slice fo lf cf, .int .i64 b1.2.2] 92) = u at *
  refine Calls.mono (HME.out _ _ _ ⟨_, _, _, _, _, _, rfl, LA.out, LB.out, NA.out, NB.out⟩ ⟨_, _, _, _, _, _, rfl, LC.out, LD.out, NC.out, ND.out⟩) ?_
  rintro ev v2 ⟨rfl, hb9⟩
  have m9 : Hid (ESt w u v2 _ _ _ _ _ _ _ _ _) := m1.out.below hb9
  clear hb9
  obtain ⟨q0, q1, q2, q3⟩ := blk2 m9.out.k2
  go_wp2_with fail
  obtain ⟨p0, p1, -, -⟩ := blk2 (blk_store2 (a := .int .u64 (r1 : Int)) (b := .int .u64 (r2 : Int)) m9.out.k2)
  refine bodyPost_ret (v := .tuple #[.agg #[.int .u64 (r1 : Int), .int .u64 (r2 : Int)], .int .i64 (r3 : Int), .string rs]) (by simp [results, Tryz.results29, go_sem, p0, p1]) rfl ?_
  exact ⟨rfl, (m9.out.hb.setCell (by exact m9.out.l2) _).setCell (by exact m9.out.l2) _⟩

set_option maxHeartbeats 20000000 in
set_option maxRecDepth 100000 in
theorem refOp_div (xl xh yl yh : Nat) (a1 a2 b1 b2 : Bool × Nat × Int) (r1 r2 r3 : Nat) (rs : ByteArray) (w : World) (hx : MadeG #[.agg #[.int .u64 (xl : Int), .int .u64 (xh : Int)]] a1 a2) (hy : MadeG #[.agg #[.int .u64 (yl : Int), .int .u64 (yh : Int)]] b1 b2) (hr : ∀ (W : World) (va vb : Value), IvV W va a1 a2 → IvV W vb b1 b2 → Calls Tryz.prog 68 #[va, vb] W fun e w' => e = .returned (.tuple #[.agg #[.int .u64 (r1 : Int), .int .u64 (r2 : Int)], .int .i64 (r3 : Int), .string rs]) ∧ Below W.heap.size W w') :
    Calls Tryz.prog 29 #[.int .i64 6, .agg #[.int .u64 (xl : Int), .int .u64 (xh : Int)], .agg #[.int .u64 (yl : Int), .int .u64 (yh : Int)]] w fun e w' => e = .returned (.tuple #[.agg #[.int .u64 (((r1, r2, r3, rs) : Nat × Nat × Nat × ByteArray).1 : Int), .int .u64 (((r1, r2, r3, rs) : Nat × Nat × Nat × ByteArray).2.1 : Int)], .int .i64 (((r1, r2, r3, rs) : Nat × Nat × Nat × ByteArray).2.2.1 : Int), .string ((r1, r2, r3, rs) : Nat × Nat × Nat × ByteArray).2.2.2]) ∧ Below w.heap.size w w' := by
  have HX : Hid (MadeG #[.agg #[.int .u64 (xl : Int), .int .u64 (xh : Int)]] a1 a2) := hx
  have HY : Hid (MadeG #[.agg #[.int .u64 (yl : Int), .int .u64 (yh : Int)]] b1 b2) := hy
  clear hx hy
  have HME : Hid (∀ (W : World) (va vb : Value), IvV W va a1 a2 → IvV W vb b1 b2 → Calls Tryz.prog 68 #[va, vb] W fun e w' => e = .returned (.tuple #[.agg #[.int .u64 (r1 : Int), .int .u64 (r2 : Int)], .int .i64 (r3 : Int), .string rs]) ∧ Below W.heap.size W w') := hr
  clear hr
  go_enter Tryz.func29, Tryz.ntmps29
  go_wp2_with fail
  have B1 := blk_old (blk_new (w.alloc (Obj.cells #[.int .u64 (xl : Int), .int .u64 (xh : Int)] 28)) (Obj.cells #[.int .u64 (yl : Int), .int .u64 (yh : Int)] 28)) (Obj.cells #[.int .u64 0, .int .u64 0] 28)
  have B2 := blk_new ((w.alloc (Obj.cells #[.int .u64 (xl : Int), .int .u64 (xh : Int)] 28)).alloc (Obj.cells #[.int .u64 (yl : Int), .int .u64 (yh : Int)] 28)) (Obj.cells #[.int .u64 0, .int .u64 0] 28)
  have hW : Below w.heap.size w (((w.alloc (Obj.cells #[.int .u64 (xl : Int), .int .u64 (xh : Int)] 28)).alloc (Obj.cells #[.int .u64 (yl : Int), .int .u64 (yh : Int)] 28)).alloc (Obj.cells #[.int .u64 0, .int .u64 0] 28)) := (((Below.refl _ _).alloc (Nat.le_refl _) _).alloc (by simp) _).alloc (by simp; omega) _
  simp only [World.size_alloc] at B1 B2
  generalize (((w.alloc (Obj.cells #[.int .u64 (xl : Int), .int .u64 (xh : Int)] 28)).alloc (Obj.cells #[.int .u64 (yl : Int), .int .u64 (yh : Int)] 28)).alloc (Obj.cells #[.int .u64 0, .int .u64 0] 28)) = W2 at *
  refine Calls.mono (HX.out _) ?_
  rintro e w1 ⟨ao, la, ca, bo, lb, cb, rfl, hla, hlb, hna, hnb, hb1⟩
  have LA : Hid (la = _) := hla
  have LB : Hid (lb = _) := hlb
  have NA : Hid (NatV (w1.alloc (Obj.cells #[.bool a1.1, .slice ao la ca, .int .i64 a1.2.2, .bool a2.1, .slice bo lb cb, .int .i64 a2.2.2] 98)) (.slice ao la ca) _) := hna.below ((Below.refl _ _).alloc (Nat.le_refl _) _) (Nat.le_refl _)
  have NB : Hid (NatV (w1.alloc (Obj.cells #[.bool a1.1, .slice ao la ca, .int .i64 a1.2.2, .bool a2.1, .slice bo lb cb, .int .i64 a2.2.2] 98)) (.slice bo lb cb) _) := hnb.below ((Below.refl _ _).alloc (Nat.le_refl _) _) (Nat.le_refl _)
  have C1 := blk_old (blk_below B1 hb1) (Obj.cells #[.bool a1.1, .slice ao la ca, .int .i64 a1.2.2, .bool a2.1, .slice bo lb cb, .int .i64 a2.2.2] 98)
  have C2 := blk_old (blk_below B2 hb1) (Obj.cells #[.bool a1.1, .slice ao la ca, .int .i64 a1.2.2, .bool a2.1, .slice bo lb cb, .int .i64 a2.2.2] 98)
  have C0 := blk_new w1 (Obj.cells #[.bool a1.1, .slice ao la ca, .int .i64 a1.2.2, .bool a2.1, .slice bo lb cb, .int .i64 a2.2.2] 98)
  have hW1 : Below w.heap.size w (w1.alloc (Obj.cells #[.bool a1.1, .slice ao la ca, .int .i64 a1.2.2, .bool a2.1, .slice bo lb cb, .int .i64 a2.2.2] 98)) := (hW.trans (hb1.mono hW.size)).alloc (Nat.le_trans hW.size hb1.size) _
  obtain ⟨y0, y1, -, -⟩ := blk2 (blk_below B1 hb1)
  have ly := lt_of_row (blk_below B1 hb1)
  clear B1 B2 hW hb1 hla hlb hna hnb HX
  go_wp2_with fail
  clear y0 y1 ly
  generalize hga : w1.heap.size = ga at *
  generalize w1.alloc (Obj.cells #[.bool a1.1, .slice ao la ca, .int .i64 a1.2.2, .bool a2.1, .slice bo lb cb, .int .i64 a2.2.2] 98) = W3 at *
  refine Calls.mono (HY.out _) ?_
  rintro e w2 ⟨co, lc, cc, do_, ld, cd, rfl, hlc, hld, hnc, hnd, hb2⟩
  have LC : Hid (lc = _) := hlc
  have LD : Hid (ld = _) := hld
  have D1 := blk_old (blk_below C2 hb2) (Obj.cells #[.bool b1.1, .slice co lc cc, .int .i64 b1.2.2, .bool b2.1, .slice do_ ld cd, .int .i64 b2.2.2] 98)
  have D0 := blk_old (blk_below C0 hb2) (Obj.cells #[.bool b1.1, .slice co lc cc, .int .i64 b1.2.2, .bool b2.1, .slice do_ ld cd, .int .i64 b2.2.2] 98)
  have DB := blk_new w2 (Obj.cells #[.bool b1.1, .slice co lc cc, .int .i64 b1.2.2, .bool b2.1, .slice do_ ld cd, .int .i64 b2.2.2] 98)
  have hW2 : Below w.heap.size w (w2.alloc (Obj.cells #[.bool b1.1, .slice co lc cc, .int .i64 b1.2.2, .bool b2.1, .slice do_ ld cd, .int .i64 b2.2.2] 98)) := (hW1.trans (hb2.mono hW1.size)).alloc (Nat.le_trans hW1.size hb2.size) _
  have hS2 : Below W3.heap.size W3 (w2.alloc (Obj.cells #[.bool b1.1, .slice co lc cc, .int .i64 b1.2.2, .bool b2.1, .slice do_ ld cd, .int .i64 b2.2.2] 98)) := hb2.alloc hb2.size _
  have NA : Hid (NatV (w2.alloc (Obj.cells #[.bool b1.1, .slice co lc cc, .int .i64 b1.2.2, .bool b2.1, .slice do_ ld cd, .int .i64 b2.2.2] 98)) (.slice ao la ca) _) := NA.out.below hS2 (Nat.le_refl _)
  have NB : Hid (NatV (w2.alloc (Obj.cells #[.bool b1.1, .slice co lc cc, .int .i64 b1.2.2, .bool b2.1, .slice do_ ld cd, .int .i64 b2.2.2] 98)) (.slice bo lb cb) _) := NB.out.below hS2 (Nat.le_refl _)
  have NC : Hid (NatV (w2.alloc (Obj.cells #[.bool b1.1, .slice co lc cc, .int .i64 b1.2.2, .bool b2.1, .slice do_ ld cd, .int .i64 b2.2.2] 98)) (.slice co lc cc) _) := hnc.below ((Below.refl _ _).alloc (Nat.le_refl _) _) (Nat.le_refl _)
  have ND : Hid (NatV (w2.alloc (Obj.cells #[.bool b1.1, .slice co lc cc, .int .i64 b1.2.2, .bool b2.1, .slice do_ ld cd, .int .i64 b2.2.2] 98)) (.slice do_ ld cd) _) := hnd.below ((Below.refl _ _).alloc (Nat.le_refl _) _) (Nat.le_refl _)
  clear C0 C1 C2 hW1 hb2 hS2 hlc hld hnc hnd HY
  go_wp2_with fail
  generalize hgb : w2.heap.size = gb at *
  generalize w2.alloc (Obj.cells #[.bool b1.1, .slice co lc cc, .int .i64 b1.2.2, .bool b2.1, .slice do_ ld cd, .int .i64 b2.2.2] 98) = W4 at *
  refine Calls.mono (negated_g b2 _ do_ ld cd LD.out ND.out) ?_
  rintro e w3 ⟨eo, le, ce, rfl, hle, hne, hb3⟩
  have LE : Hid (le = _) := hle
  have hS3 : Below W4.heap.size W4 (w3.alloc (Obj.cells #[.bool (negS b2.1 b2.2.1), .slice eo le ce, .int .i64 b2.2.2] 92)) := hb3.alloc hb3.size _
  have E1 := blk_old (blk_below D1 hb3) (Obj.cells #[.bool (negS b2.1 b2.2.1), .slice eo le ce, .int .i64 b2.2.2] 92)
  have E0 := blk_old (blk_below D0 hb3) (Obj.cells #[.bool (negS b2.1 b2.2.1), .slice eo le ce, .int .i64 b2.2.2] 92)
  have EB := blk_old (blk_below DB hb3) (Obj.cells #[.bool (negS b2.1 b2.2.1), .slice eo le ce, .int .i64 b2.2.2] 92)
  have EL := blk_new w3 (Obj.cells #[.bool (negS b2.1 b2.2.1), .slice eo le ce, .int .i64 b2.2.2] 92)
  have hW3 : Below w.heap.size w (w3.alloc (Obj.cells #[.bool (negS b2.1 b2.2.1), .slice eo le ce, .int .i64 b2.2.2] 92)) := (hW2.trans (hb3.mono hW2.size)).alloc (Nat.le_trans hW2.size hb3.size) _
  have NA : Hid (NatV (w3.alloc (Obj.cells #[.bool (negS b2.1 b2.2.1), .slice eo le ce, .int .i64 b2.2.2] 92)) (.slice ao la ca) _) := NA.out.below hS3 (Nat.le_refl _)
  have NB : Hid (NatV (w3.alloc (Obj.cells #[.bool (negS b2.1 b2.2.1), .slice eo le ce, .int .i64 b2.2.2] 92)) (.slice bo lb cb) _) := NB.out.below hS3 (Nat.le_refl _)
  have NC : Hid (NatV (w3.alloc (Obj.cells #[.bool (negS b2.1 b2.2.1), .slice eo le ce, .int .i64 b2.2.2] 92)) (.slice co lc cc) _) := NC.out.below hS3 (Nat.le_refl _)
  have ND : Hid (NatV (w3.alloc (Obj.cells #[.bool (negS b2.1 b2.2.1), .slice eo le ce, .int .i64 b2.2.2] 92)) (.slice do_ ld cd) _) := ND.out.below hS3 (Nat.le_refl _)
  have NE : Hid (NatV (w3.alloc (Obj.cells #[.bool (negS b2.1 b2.2.1), .slice eo le ce, .int .i64 b2.2.2] 92)) (.slice eo le ce) _) := hne.below ((Below.refl _ _).alloc (Nat.le_refl _) _) (Nat.le_refl _)
  obtain ⟨y0, y1, y2, -, -, -, -, -, -, -, -, -⟩ := blk6 (blk_below DB hb3)
  have ly := lt_of_row (blk_below DB hb3)
  clear D0 D1 DB hW2 hb3 hS3 hle hne
  go_wp2_with fail
  clear y0 y1 y2 ly
  generalize hgc : w3.heap.size = gc at *
  generalize w3.alloc (Obj.cells #[.bool (negS b2.1 b2.2.1), .slice eo le ce, .int .i64 b2.2.2] 92) = W5 at *
  refine Calls.mono (negated_g b1 _ co lc cc LC.out NC.out) ?_
  rintro e w4 ⟨fo, lf, cf, rfl, hlf, hnf, hb4⟩
  have LF : Hid (lf = _) := hlf
  have hS4 : Below W5.heap.size W5 (w4.alloc (Obj.cells #[.bool (negS b1.1 b1.2.1), .slice fo lf cf, .int .i64 b1.2.2] 92)) := hb4.alloc hb4.size _
  have NA : Hid (NatV (w4.alloc (Obj.cells #[.bool (negS b1.1 b1.2.1), .slice fo lf cf, .int .i64 b1.2.2] 92)) (.slice ao la ca) _) := NA.out.below hS4 (Nat.le_refl _)
  have NB : Hid (NatV (w4.alloc (Obj.cells #[.bool (negS b1.1 b1.2.1), .slice fo lf cf, .int .i64 b1.2.2] 92)) (.slice bo lb cb) _) := NB.out.below hS4 (Nat.le_refl _)
  have NC : Hid (NatV (w4.alloc (Obj.cells #[.bool (negS b1.1 b1.2.1), .slice fo lf cf, .int .i64 b1.2.2] 92)) (.slice co lc cc) _) := NC.out.below hS4 (Nat.le_refl _)
  have ND : Hid (NatV (w4.alloc (Obj.cells #[.bool (negS b1.1 b1.2.1), .slice fo lf cf, .int .i64 b1.2.2] 92)) (.slice do_ ld cd) _) := ND.out.below hS4 (Nat.le_refl _)
  have NE : Hid (NatV (w4.alloc (Obj.cells #[.bool (negS b1.1 b1.2.1), .slice fo lf cf, .int .i64 b1.2.2] 92)) (.slice eo le ce) _) := NE.out.below hS4 (Nat.le_refl _)
  have NF : Hid (NatV (w4.alloc (Obj.cells #[.bool (negS b1.1 b1.2.1), .slice fo lf cf, .int .i64 b1.2.2] 92)) (.slice fo lf cf) _) := hnf.below ((Below.refl _ _).alloc (Nat.le_refl _) _) (Nat.le_refl _)
  have m1 : Hid (ESt w (w4.alloc (Obj.cells #[.bool (negS b1.1 b1.2.1), .slice fo lf cf, .int .i64 b1.2.2] 92)) (w4.alloc (Obj.cells #[.bool (negS b1.1 b1.2.1), .slice fo lf cf, .int .i64 b1.2.2] 92)) (w.heap.size + 1 + 1) ga gb gc w4.heap.size #[.bool a1.1, .slice ao la ca, .int .i64 a1.2.2, .bool a2.1, .slice bo lb cb, .int .i64 a2.2.2] #[.bool b1.1, .slice co lc cc, .int .i64 b1.2.2, .bool b2.1, .slice do_ ld cd, .int .i64 b2.2.2] #[.bool (negS b2.1 b2.2.1), .slice eo le ce, .int .i64 b2.2.2] #[.bool (negS b1.1 b1.2.1), .slice fo lf cf, .int .i64 b1.2.2]) :=
    ⟨blk_old (blk_below E0 hb4) _, blk_old (blk_below EB hb4) _, blk_old (blk_below E1 hb4) _, blk_old (blk_below EL hb4) _, blk_new w4 _, (hW3.trans (hb4.mono hW3.size)).alloc (Nat.le_trans hW3.size hb4.size) _, Below.refl _ _, lt_of_row (blk_old (blk_below E0 hb4) (Obj.cells #[.bool (negS b1.1 b1.2.1), .slice fo lf cf, .int .i64 b1.2.2] 92)), lt_of_row (blk_old (blk_below EB hb4) (Obj.cells #[.bool (negS b1.1 b1.2.1), .slice fo lf cf, .int .i64 b1.2.2] 92)), lt_of_row (blk_old (blk_below E1 hb4) (Obj.cells #[.bool (negS b1.1 b1.2.1), .slice fo lf cf, .int .i64 b1.2.2] 92)), lt_of_row (blk_old (blk_below EL hb4) (Obj.cells #[.bool (negS b1.1 b1.2.1), .slice fo lf cf, .int .i64 b1.2.2] 92)), lt_of_row (blk_new w4 (Obj.cells #[.bool (negS b1.1 b1.2.1), .slice fo lf cf, .int .i64 b1.2.2] 92)), by omega⟩
  obtain ⟨x0, x1, x2, x3, x4, x5, -, -, -, -, -, -⟩ := blk6 (blk_below E0 hb4)
  obtain ⟨y0, y1, y2, y3, y4, y5, -, -, -, -, -, -⟩ := blk6 (blk_below EB hb4)
  have lx := lt_of_row (blk_below E0 hb4)
  have ly := lt_of_row (blk_below EB hb4)
  clear E0 E1 EB EL hW3 hb4 hS4 hlf hnf hga hgb hgc
  go_wp2_with fail
  clear x0 x1 x2 x3 x4 x5 y0 y1 y2 y3 y4 y5 lx ly
  generalize hgd : w4.heap.size = gd at *
  generalize w4.alloc (Obj.cells #[.bool (negS b1.1 b1.2.1), .slice fo lf cf, .int .i64 b1.2.2] 92) = u at *
  refine Calls.mono (HME.out _ _ _ ⟨_, _, _, _, _, _, rfl, LA.out, LB.out, NA.out, NB.out⟩ ⟨_, _, _, _, _, _, rfl, LC.out, LD.out, NC.out, ND.out⟩) ?_
  rintro ev v2 ⟨rfl, hb9⟩
  have m9 : Hid (ESt w u v2 _ _ _ _ _ _ _ _ _) := m1.out.below hb9
  clear hb9
  obtain ⟨q0, q1, q2, q3⟩ := blk2 m9.out.k2
  go_wp2_with fail
  obtain ⟨p0, p1, -, -⟩ := blk2 (blk_store2 (a := .int .u64 (r1 : Int)) (b := .int .u64 (r2 : Int)) m9.out.k2)
  refine bodyPost_ret (v := .tuple #[.agg #[.int .u64 (r1 : Int), .int .u64 (r2 : Int)], .int .i64 (r3 : Int), .string rs]) (by simp [results, Tryz.results29, go_sem, p0, p1]) rfl ?_
  exact ⟨rfl, (m9.out.hb.setCell (by exact m9.out.l2) _).setCell (by exact m9.out.l2) _⟩

set_option maxHeartbeats 20000000 in
set_option maxRecDepth 100000 in
theorem refOp_else (xl xh yl yh : Nat) (a1 a2 b1 b2 : Bool × Nat × Int) (k : Int) (r1 r2 r3 : Nat) (w : World) (hx : MadeG #[.agg #[.int .u64 (xl : Int), .int .u64 (xh : Int)]] a1 a2) (hy : MadeG #[.agg #[.int .u64 (yl : Int), .int .u64 (yh : Int)]] b1 b2) (k0 : k ≠ 0) (k1 : k ≠ 1) (k2 : k ≠ 2) (k3 : k ≠ 3) (k4 : k ≠ 4) (k5 : k ≠ 5) (k6 : k ≠ 6) (k7 : k ≠ 7) (hr : ∀ (W : World) (o0 o1 : Option Addr) (l0 l1 c0 c1 : Nat), l0 = (digits a1.2.1).length → l1 = (digits a2.2.1).length → NatV W (.slice o0 l0 c0) a1.2.1 → NatV W (.slice o1 l1 c1) a2.2.1 → Calls Tryz.prog 62 #[.agg #[.bool a1.1, .slice o0 l0 c0, .int .i64 a1.2.2], .agg #[.bool a2.1, .slice o1 l1 c1, .int .i64 a2.2.2]] W fun ev w' => ev = .returned (.tuple #[.agg #[.int .u64 (r1 : Int), .int .u64 (r2 : Int)], .int .i64 (r3 : Int)]) ∧ Below W.heap.size W w') :
    Calls Tryz.prog 29 #[.int .i64 k, .agg #[.int .u64 (xl : Int), .int .u64 (xh : Int)], .agg #[.int .u64 (yl : Int), .int .u64 (yh : Int)]] w fun e w' => e = .returned (.tuple #[.agg #[.int .u64 (((r1, r2, 0, ⟨#[]⟩) : Nat × Nat × Nat × ByteArray).1 : Int), .int .u64 (((r1, r2, 0, ⟨#[]⟩) : Nat × Nat × Nat × ByteArray).2.1 : Int)], .int .i64 (((r1, r2, 0, ⟨#[]⟩) : Nat × Nat × Nat × ByteArray).2.2.1 : Int), .string ((r1, r2, 0, ⟨#[]⟩) : Nat × Nat × Nat × ByteArray).2.2.2]) ∧ Below w.heap.size w w' := by
  have HX : Hid (MadeG #[.agg #[.int .u64 (xl : Int), .int .u64 (xh : Int)]] a1 a2) := hx
  have HY : Hid (MadeG #[.agg #[.int .u64 (yl : Int), .int .u64 (yh : Int)]] b1 b2) := hy
  clear hx hy
  have HAR : Hid (∀ (W : World) (o0 o1 : Option Addr) (l0 l1 c0 c1 : Nat), l0 = (digits a1.2.1).length → l1 = (digits a2.2.1).length → NatV W (.slice o0 l0 c0) a1.2.1 → NatV W (.slice o1 l1 c1) a2.2.1 → Calls Tryz.prog 62 #[.agg #[.bool a1.1, .slice o0 l0 c0, .int .i64 a1.2.2], .agg #[.bool a2.1, .slice o1 l1 c1, .int .i64 a2.2.2]] W fun ev w' => ev = .returned (.tuple #[.agg #[.int .u64 (r1 : Int), .int .u64 (r2 : Int)], .int .i64 (r3 : Int)]) ∧ Below W.heap.size W w') := hr
  clear hr
  go_enter Tryz.func29, Tryz.ntmps29
  go_wp2_with fail
  have B1 := blk_old (blk_new (w.alloc (Obj.cells #[.int .u64 (xl : Int), .int .u64 (xh : Int)] 28)) (Obj.cells #[.int .u64 (yl : Int), .int .u64 (yh : Int)] 28)) (Obj.cells #[.int .u64 0, .int .u64 0] 28)
  have B2 := blk_new ((w.alloc (Obj.cells #[.int .u64 (xl : Int), .int .u64 (xh : Int)] 28)).alloc (Obj.cells #[.int .u64 (yl : Int), .int .u64 (yh : Int)] 28)) (Obj.cells #[.int .u64 0, .int .u64 0] 28)
  have hW : Below w.heap.size w (((w.alloc (Obj.cells #[.int .u64 (xl : Int), .int .u64 (xh : Int)] 28)).alloc (Obj.cells #[.int .u64 (yl : Int), .int .u64 (yh : Int)] 28)).alloc (Obj.cells #[.int .u64 0, .int .u64 0] 28)) := (((Below.refl _ _).alloc (Nat.le_refl _) _).alloc (by simp) _).alloc (by simp; omega) _
  simp only [World.size_alloc] at B1 B2
  generalize (((w.alloc (Obj.cells #[.int .u64 (xl : Int), .int .u64 (xh : Int)] 28)).alloc (Obj.cells #[.int .u64 (yl : Int), .int .u64 (yh : Int)] 28)).alloc (Obj.cells #[.int .u64 0, .int .u64 0] 28)) = W2 at *
  refine Calls.mono (HX.out _) ?_
  rintro e w1 ⟨ao, la, ca, bo, lb, cb, rfl, hla, hlb, hna, hnb, hb1⟩
  have LA : Hid (la = _) := hla
  have LB : Hid (lb = _) := hlb
  have NA : Hid (NatV (w1.alloc (Obj.cells #[.bool a1.1, .slice ao la ca, .int .i64 a1.2.2, .bool a2.1, .slice bo lb cb, .int .i64 a2.2.2] 98)) (.slice ao la ca) _) := hna.below ((Below.refl _ _).alloc (Nat.le_refl _) _) (Nat.le_refl _)
  have NB : Hid (NatV (w1.alloc (Obj.cells #[.bool a1.1, .slice ao la ca, .int .i64 a1.2.2, .bool a2.1, .slice bo lb cb, .int .i64 a2.2.2] 98)) (.slice bo lb cb) _) := hnb.below ((Below.refl _ _).alloc (Nat.le_refl _) _) (Nat.le_refl _)
  have C1 := blk_old (blk_below B1 hb1) (Obj.cells #[.bool a1.1, .slice ao la ca, .int .i64 a1.2.2, .bool a2.1, .slice bo lb cb, .int .i64 a2.2.2] 98)
  have C2 := blk_old (blk_below B2 hb1) (Obj.cells #[.bool a1.1, .slice ao la ca, .int .i64 a1.2.2, .bool a2.1, .slice bo lb cb, .int .i64 a2.2.2] 98)
  have C0 := blk_new w1 (Obj.cells #[.bool a1.1, .slice ao la ca, .int .i64 a1.2.2, .bool a2.1, .slice bo lb cb, .int .i64 a2.2.2] 98)
  have hW1 : Below w.heap.size w (w1.alloc (Obj.cells #[.bool a1.1, .slice ao la ca, .int .i64 a1.2.2, .bool a2.1, .slice bo lb cb, .int .i64 a2.2.2] 98)) := (hW.trans (hb1.mono hW.size)).alloc (Nat.le_trans hW.size hb1.size) _
  obtain ⟨y0, y1, -, -⟩ := blk2 (blk_below B1 hb1)
  have ly := lt_of_row (blk_below B1 hb1)
  clear B1 B2 hW hb1 hla hlb hna hnb HX
  go_wp2_with fail
  clear y0 y1 ly
  generalize hga : w1.heap.size = ga at *
  generalize w1.alloc (Obj.cells #[.bool a1.1, .slice ao la ca, .int .i64 a1.2.2, .bool a2.1, .slice bo lb cb, .int .i64 a2.2.2] 98) = W3 at *
  refine Calls.mono (HY.out _) ?_
  rintro e w2 ⟨co, lc, cc, do_, ld, cd, rfl, hlc, hld, hnc, hnd, hb2⟩
  have LC : Hid (lc = _) := hlc
  have LD : Hid (ld = _) := hld
  have D1 := blk_old (blk_below C2 hb2) (Obj.cells #[.bool b1.1, .slice co lc cc, .int .i64 b1.2.2, .bool b2.1, .slice do_ ld cd, .int .i64 b2.2.2] 98)
  have D0 := blk_old (blk_below C0 hb2) (Obj.cells #[.bool b1.1, .slice co lc cc, .int .i64 b1.2.2, .bool b2.1, .slice do_ ld cd, .int .i64 b2.2.2] 98)
  have DB := blk_new w2 (Obj.cells #[.bool b1.1, .slice co lc cc, .int .i64 b1.2.2, .bool b2.1, .slice do_ ld cd, .int .i64 b2.2.2] 98)
  have hW2 : Below w.heap.size w (w2.alloc (Obj.cells #[.bool b1.1, .slice co lc cc, .int .i64 b1.2.2, .bool b2.1, .slice do_ ld cd, .int .i64 b2.2.2] 98)) := (hW1.trans (hb2.mono hW1.size)).alloc (Nat.le_trans hW1.size hb2.size) _
  have hS2 : Below W3.heap.size W3 (w2.alloc (Obj.cells #[.bool b1.1, .slice co lc cc, .int .i64 b1.2.2, .bool b2.1, .slice do_ ld cd, .int .i64 b2.2.2] 98)) := hb2.alloc hb2.size _
  have NA : Hid (NatV (w2.alloc (Obj.cells #[.bool b1.1, .slice co lc cc, .int .i64 b1.2.2, .bool b2.1, .slice do_ ld cd, .int .i64 b2.2.2] 98)) (.slice ao la ca) _) := NA.out.below hS2 (Nat.le_refl _)
  have NB : Hid (NatV (w2.alloc (Obj.cells #[.bool b1.1, .slice co lc cc, .int .i64 b1.2.2, .bool b2.1, .slice do_ ld cd, .int .i64 b2.2.2] 98)) (.slice bo lb cb) _) := NB.out.below hS2 (Nat.le_refl _)
  have NC : Hid (NatV (w2.alloc (Obj.cells #[.bool b1.1, .slice co lc cc, .int .i64 b1.2.2, .bool b2.1, .slice do_ ld cd, .int .i64 b2.2.2] 98)) (.slice co lc cc) _) := hnc.below ((Below.refl _ _).alloc (Nat.le_refl _) _) (Nat.le_refl _)
  have ND : Hid (NatV (w2.alloc (Obj.cells #[.bool b1.1, .slice co lc cc, .int .i64 b1.2.2, .bool b2.1, .slice do_ ld cd, .int .i64 b2.2.2] 98)) (.slice do_ ld cd) _) := hnd.below ((Below.refl _ _).alloc (Nat.le_refl _) _) (Nat.le_refl _)
  clear C0 C1 C2 hW1 hb2 hS2 hlc hld hnc hnd HY
  go_wp2_with fail
  generalize hgb : w2.heap.size = gb at *
  generalize w2.alloc (Obj.cells #[.bool b1.1, .slice co lc cc, .int .i64 b1.2.2, .bool b2.1, .slice do_ ld cd, .int .i64 b2.2.2] 98) = W4 at *
  refine Calls.mono (negated_g b2 _ do_ ld cd LD.out ND.out) ?_
  rintro e w3 ⟨eo, le, ce, rfl, hle, hne, hb3⟩
  have LE : Hid (le = _) := hle
  have hS3 : Below W4.heap.size W4 (w3.alloc (Obj.cells #[.bool (negS b2.1 b2.2.1), .slice eo le ce, .int .i64 b2.2.2] 92)) := hb3.alloc hb3.size _
  have E1 := blk_old (blk_below D1 hb3) (Obj.cells #[.bool (negS b2.1 b2.2.1), .slice eo le ce, .int .i64 b2.2.2] 92)
  have E0 := blk_old (blk_below D0 hb3) (Obj.cells #[.bool (negS b2.1 b2.2.1), .slice eo le ce, .int .i64 b2.2.2] 92)
  have EB := blk_old (blk_below DB hb3) (Obj.cells #[.bool (negS b2.1 b2.2.1), .slice eo le ce, .int .i64 b2.2.2] 92)
  have EL := blk_new w3 (Obj.cells #[.bool (negS b2.1 b2.2.1), .slice eo le ce, .int .i64 b2.2.2] 92)
  have hW3 : Below w.heap.size w (w3.alloc (Obj.cells #[.bool (negS b2.1 b2.2.1), .slice eo le ce, .int .i64 b2.2.2] 92)) := (hW2.trans (hb3.mono hW2.size)).alloc (Nat.le_trans hW2.size hb3.size) _
  have NA : Hid (NatV (w3.alloc (Obj.cells #[.bool (negS b2.1 b2.2.1), .slice eo le ce, .int .i64 b2.2.2] 92)) (.slice ao la ca) _) := NA.out.below hS3 (Nat.le_refl _)
  have NB : Hid (NatV (w3.alloc (Obj.cells #[.bool (negS b2.1 b2.2.1), .slice eo le ce, .int .i64 b2.2.2] 92)) (.slice bo lb cb) _) := NB.out.below hS3 (Nat.le_refl _)
  have NC : Hid (NatV (w3.alloc (Obj.cells #[.bool (negS b2.1 b2.2.1), .slice eo le ce, .int .i64 b2.2.2] 92)) (.slice co lc cc) _) := NC.out.below hS3 (Nat.le_refl _)
  have ND : Hid (NatV (w3.alloc (Obj.cells #[.bool (negS b2.1 b2.2.1), .slice eo le ce, .int .i64 b2.2.2] 92)) (.slice do_ ld cd) _) := ND.out.below hS3 (Nat.le_refl _)
  have NE : Hid (NatV (w3.alloc (Obj.cells #[.bool (negS b2.1 b2.2.1), .slice eo le ce, .int .i64 b2.2.2] 92)) (.slice eo le ce) _) := hne.below ((Below.refl _ _).alloc (Nat.le_refl _) _) (Nat.le_refl _)
  obtain ⟨y0, y1, y2, -, -, -, -, -, -, -, -, -⟩ := blk6 (blk_below DB hb3)
  have ly := lt_of_row (blk_below DB hb3)
  clear D0 D1 DB hW2 hb3 hS3 hle hne
  go_wp2_with fail
  clear y0 y1 y2 ly
  generalize hgc : w3.heap.size = gc at *
  generalize w3.alloc (Obj.cells #[.bool (negS b2.1 b2.2.1), .slice eo le ce, .int .i64 b2.2.2] 92) = W5 at *
  refine Calls.mono (negated_g b1 _ co lc cc LC.out NC.out) ?_
  rintro e w4 ⟨fo, lf, cf, rfl, hlf, hnf, hb4⟩
  have LF : Hid (lf = _) := hlf
  have hS4 : Below W5.heap.size W5 (w4.alloc (Obj.cells #[.bool (negS b1.1 b1.2.1), .slice fo lf cf, .int .i64 b1.2.2] 92)) := hb4.alloc hb4.size _
  have NA : Hid (NatV (w4.alloc (Obj.cells #[.bool (negS b1.1 b1.2.1), .slice fo lf cf, .int .i64 b1.2.2] 92)) (.slice ao la ca) _) := NA.out.below hS4 (Nat.le_refl _)
  have NB : Hid (NatV (w4.alloc (Obj.cells #[.bool (negS b1.1 b1.2.1), .slice fo lf cf, .int .i64 b1.2.2] 92)) (.slice bo lb cb) _) := NB.out.below hS4 (Nat.le_refl _)
  have NC : Hid (NatV (w4.alloc (Obj.cells #[.bool (negS b1.1 b1.2.1), .slice fo lf cf, .int .i64 b1.2.2] 92)) (.slice co lc cc) _) := NC.out.below hS4 (Nat.le_refl _)
  have ND : Hid (NatV (w4.alloc (Obj.cells #[.bool (negS b1.1 b1.2.1), .slice fo lf cf, .int .i64 b1.2.2] 92)) (.slice do_ ld cd) _) := ND.out.below hS4 (Nat.le_refl _)
  have NE : Hid (NatV (w4.alloc (Obj.cells #[.bool (negS b1.1 b1.2.1), .slice fo lf cf, .int .i64 b1.2.2] 92)) (.slice eo le ce) _) := NE.out.below hS4 (Nat.le_refl _)
  have NF : Hid (NatV (w4.alloc (Obj.cells #[.bool (negS b1.1 b1.2.1), .slice fo lf cf, .int .i64 b1.2.2] 92)) (.slice fo lf cf) _) := hnf.below ((Below.refl _ _).alloc (Nat.le_refl _) _) (Nat.le_refl _)
  have m1 : Hid (ESt w (w4.alloc (Obj.cells #[.bool (negS b1.1 b1.2.1), .slice fo lf cf, .int .i64 b1.2.2] 92)) (w4.alloc (Obj.cells #[.bool (negS b1.1 b1.2.1), .slice fo lf cf, .int .i64 b1.2.2] 92)) (w.heap.size + 1 + 1) ga gb gc w4.heap.size #[.bool a1.1, .slice ao la ca, .int .i64 a1.2.2, .bool a2.1, .slice bo lb cb, .int .i64 a2.2.2] #[.bool b1.1, .slice co lc cc, .int .i64 b1.2.2, .bool b2.1, .slice do_ ld cd, .int .i64 b2.2.2] #[.bool (negS b2.1 b2.2.1), .slice eo le ce, .int .i64 b2.2.2] #[.bool (negS b1.1 b1.2.1), .slice fo lf cf, .int .i64 b1.2.2]) :=
    ⟨blk_old (blk_below E0 hb4) _, blk_old (blk_below EB hb4) _, blk_old (blk_below E1 hb4) _, blk_old (blk_below EL hb4) _, blk_new w4 _, (hW3.trans (hb4.mono hW3.size)).alloc (Nat.le_trans hW3.size hb4.size) _, Below.refl _ _, lt_of_row (blk_old (blk_below E0 hb4) (Obj.cells #[.bool (negS b1.1 b1.2.1), .slice fo lf cf, .int .i64 b1.2.2] 92)), lt_of_row (blk_old (blk_below EB hb4) (Obj.cells #[.bool (negS b1.1 b1.2.1), .slice fo lf cf, .int .i64 b1.2.2] 92)), lt_of_row (blk_old (blk_below E1 hb4) (Obj.cells #[.bool (negS b1.1 b1.2.1), .slice fo lf cf, .int .i64 b1.2.2] 92)), lt_of_row (blk_old (blk_below EL hb4) (Obj.cells #[.bool (negS b1.1 b1.2.1), .slice fo lf cf, .int .i64 b1.2.2] 92)), lt_of_row (blk_new w4 (Obj.cells #[.bool (negS b1.1 b1.2.1), .slice fo lf cf, .int .i64 b1.2.2] 92)), by omega⟩
  obtain ⟨x0, x1, x2, x3, x4, x5, -, -, -, -, -, -⟩ := blk6 (blk_below E0 hb4)
  obtain ⟨y0, y1, y2, y3, y4, y5, -, -, -, -, -, -⟩ := blk6 (blk_below EB hb4)
  have lx := lt_of_row (blk_below E0 hb4)
  have ly := lt_of_row (blk_below EB hb4)
  clear E0 E1 EB EL hW3 hb4 hS4 hlf hnf hga hgb hgc
  go_wp2_with fail
  clear x0 x1 x2 x3 x4 x5 y0 y1 y2 y3 y4 y5 lx ly
  generalize hgd : w4.heap.size = gd at *
  generalize w4.alloc (Obj.cells #[.bool (negS b1.1 b1.2.1), .slice fo lf cf, .int .i64 b1.2.2] 92) = u at *
  refine Calls.mono (HAR.out _ ao bo la lb ca cb LA.out LB.out NA.out NB.out) ?_
  rintro ev v2 ⟨rfl, hb9⟩
  have m9 : Hid (ESt w u v2 _ _ _ _ _ _ _ _ _) := m1.out.below hb9
  clear hb9
  obtain ⟨q0, q1, q2, q3⟩ := blk2 m9.out.k2
  have lq := lt_of_row m9.out.k2
  go_wp2_with fail
  obtain ⟨p0, p1, -, -⟩ := blk2 (blk_old (blk_store2 (a := .int .u64 (r1 : Int)) (b := .int .u64 (r2 : Int)) m9.out.k2) (Obj.cells #[.int .u64 (r1 : Int), .int .u64 (r2 : Int)] 28))
  refine bodyPost_ret (v := .tuple #[.agg #[.int .u64 (r1 : Int), .int .u64 (r2 : Int)], .int .i64 0, .string ⟨#[]⟩]) (by simp [results, Tryz.results29, go_sem, p0, p1]) rfl ?_
  exact ⟨rfl, ((m9.out.hb.setCell (by exact m9.out.l2) _).setCell (by exact m9.out.l2) _).alloc (by simp only [World.size_setCell]; exact m9.out.hb.size) _⟩

set_option maxHeartbeats 20000000 in
set_option maxRecDepth 100000 in
theorem refOp_sqrtn (xl xh yl yh : Nat) (a1 a2 b1 b2 : Bool × Nat × Int) (w : World) (hx : MadeG #[.agg #[.int .u64 (xl : Int), .int .u64 (xh : Int)]] a1 a2) (hy : MadeG #[.agg #[.int .u64 (yl : Int), .int .u64 (yh : Int)]] b1 b2) (hs : sgnI a1.1 a1.2.1 < 0) :
    Calls Tryz.prog 29 #[.int .i64 7, .agg #[.int .u64 (xl : Int), .int .u64 (xh : Int)], .agg #[.int .u64 (yl : Int), .int .u64 (yh : Int)]] w fun e w' => e = .returned (.tuple #[.agg #[.int .u64 (((0, 0, 5, ⟨#[115, 113, 114, 116]⟩) : Nat × Nat × Nat × ByteArray).1 : Int), .int .u64 (((0, 0, 5, ⟨#[115, 113, 114, 116]⟩) : Nat × Nat × Nat × ByteArray).2.1 : Int)], .int .i64 (((0, 0, 5, ⟨#[115, 113, 114, 116]⟩) : Nat × Nat × Nat × ByteArray).2.2.1 : Int), .string ((0, 0, 5, ⟨#[115, 113, 114, 116]⟩) : Nat × Nat × Nat × ByteArray).2.2.2]) ∧ Below w.heap.size w w' := by
  have HX : Hid (MadeG #[.agg #[.int .u64 (xl : Int), .int .u64 (xh : Int)]] a1 a2) := hx
  have HY : Hid (MadeG #[.agg #[.int .u64 (yl : Int), .int .u64 (yh : Int)]] b1 b2) := hy
  clear hx hy
  have HSG : Hid (sgnI a1.1 a1.2.1 < 0) := hs
  clear hs
  go_enter Tryz.func29, Tryz.ntmps29
  go_wp2_with fail
  have B1 := blk_old (blk_new (w.alloc (Obj.cells #[.int .u64 (xl : Int), .int .u64 (xh : Int)] 28)) (Obj.cells #[.int .u64 (yl : Int), .int .u64 (yh : Int)] 28)) (Obj.cells #[.int .u64 0, .int .u64 0] 28)
  have B2 := blk_new ((w.alloc (Obj.cells #[.int .u64 (xl : Int), .int .u64 (xh : Int)] 28)).alloc (Obj.cells #[.int .u64 (yl : Int), .int .u64 (yh : Int)] 28)) (Obj.cells #[.int .u64 0, .int .u64 0] 28)
  have hW : Below w.heap.size w (((w.alloc (Obj.cells #[.int .u64 (xl : Int), .int .u64 (xh : Int)] 28)).alloc (Obj.cells #[.int .u64 (yl : Int), .int .u64 (yh : Int)] 28)).alloc (Obj.cells #[.int .u64 0, .int .u64 0] 28)) := (((Below.refl _ _).alloc (Nat.le_refl _) _).alloc (by simp) _).alloc (by simp; omega) _
  simp only [World.size_alloc] at B1 B2
  generalize (((w.alloc (Obj.cells #[.int .u64 (xl : Int), .int .u64 (xh : Int)] 28)).alloc (Obj.cells #[.int .u64 (yl : Int), .int .u64 (yh : Int)] 28)).alloc (Obj.cells #[.int .u64 0, .int .u64 0] 28)) = W2 at *
  refine Calls.mono (HX.out _) ?_
  rintro e w1 ⟨ao, la, ca, bo, lb, cb, rfl, hla, hlb, hna, hnb, hb1⟩
  have LA : Hid (la = _) := hla
  have LB : Hid (lb = _) := hlb
  have NA : Hid (NatV (w1.alloc (Obj.cells #[.bool a1.1, .slice ao la ca, .int .i64 a1.2.2, .bool a2.1, .slice bo lb cb, .int .i64 a2.2.2] 98)) (.slice ao la ca) _) := hna.below ((Below.refl _ _).alloc (Nat.le_refl _) _) (Nat.le_refl _)
  have NB : Hid (NatV (w1.alloc (Obj.cells #[.bool a1.1, .slice ao la ca, .int .i64 a1.2.2, .bool a2.1, .slice bo lb cb, .int .i64 a2.2.2] 98)) (.slice bo lb cb) _) := hnb.below ((Below.refl _ _).alloc (Nat.le_refl _) _) (Nat.le_refl _)
  have C1 := blk_old (blk_below B1 hb1) (Obj.cells #[.bool a1.1, .slice ao la ca, .int .i64 a1.2.2, .bool a2.1, .slice bo lb cb, .int .i64 a2.2.2] 98)
  have C2 := blk_old (blk_below B2 hb1) (Obj.cells #[.bool a1.1, .slice ao la ca, .int .i64 a1.2.2, .bool a2.1, .slice bo lb cb, .int .i64 a2.2.2] 98)
  have C0 := blk_new w1 (Obj.cells #[.bool a1.1, .slice ao la ca, .int .i64 a1.2.2, .bool a2.1, .slice bo lb cb, .int .i64 a2.2.2] 98)
  have hW1 : Below w.heap.size w (w1.alloc (Obj.cells #[.bool a1.1, .slice ao la ca, .int .i64 a1.2.2, .bool a2.1, .slice bo lb cb, .int .i64 a2.2.2] 98)) := (hW.trans (hb1.mono hW.size)).alloc (Nat.le_trans hW.size hb1.size) _
  obtain ⟨y0, y1, -, -⟩ := blk2 (blk_below B1 hb1)
  have ly := lt_of_row (blk_below B1 hb1)
  clear B1 B2 hW hb1 hla hlb hna hnb HX
  go_wp2_with fail
  clear y0 y1 ly
  generalize hga : w1.heap.size = ga at *
  generalize w1.alloc (Obj.cells #[.bool a1.1, .slice ao la ca, .int .i64 a1.2.2, .bool a2.1, .slice bo lb cb, .int .i64 a2.2.2] 98) = W3 at *
  refine Calls.mono (HY.out _) ?_
  rintro e w2 ⟨co, lc, cc, do_, ld, cd, rfl, hlc, hld, hnc, hnd, hb2⟩
  have LC : Hid (lc = _) := hlc
  have LD : Hid (ld = _) := hld
  have D1 := blk_old (blk_below C2 hb2) (Obj.cells #[.bool b1.1, .slice co lc cc, .int .i64 b1.2.2, .bool b2.1, .slice do_ ld cd, .int .i64 b2.2.2] 98)
  have D0 := blk_old (blk_below C0 hb2) (Obj.cells #[.bool b1.1, .slice co lc cc, .int .i64 b1.2.2, .bool b2.1, .slice do_ ld cd, .int .i64 b2.2.2] 98)
  have DB := blk_new w2 (Obj.cells #[.bool b1.1, .slice co lc cc, .int .i64 b1.2.2, .bool b2.1, .slice do_ ld cd, .int .i64 b2.2.2] 98)
  have hW2 : Below w.heap.size w (w2.alloc (Obj.cells #[.bool b1.1, .slice co lc cc, .int .i64 b1.2.2, .bool b2.1, .slice do_ ld cd, .int .i64 b2.2.2] 98)) := (hW1.trans (hb2.mono hW1.size)).alloc (Nat.le_trans hW1.size hb2.size) _
  have hS2 : Below W3.heap.size W3 (w2.alloc (Obj.cells #[.bool b1.1, .slice co lc cc, .int .i64 b1.2.2, .bool b2.1, .slice do_ ld cd, .int .i64 b2.2.2] 98)) := hb2.alloc hb2.size _
  have NA : Hid (NatV (w2.alloc (Obj.cells #[.bool b1.1, .slice co lc cc, .int .i64 b1.2.2, .bool b2.1, .slice do_ ld cd, .int .i64 b2.2.2] 98)) (.slice ao la ca) _) := NA.out.below hS2 (Nat.le_refl _)
  have NB : Hid (NatV (w2.alloc (Obj.cells #[.bool b1.1, .slice co lc cc, .int .i64 b1.2.2, .bool b2.1, .slice do_ ld cd, .int .i64 b2.2.2] 98)) (.slice bo lb cb) _) := NB.out.below hS2 (Nat.le_refl _)
  have NC : Hid (NatV (w2.alloc (Obj.cells #[.bool b1.1, .slice co lc cc, .int .i64 b1.2.2, .bool b2.1, .slice do_ ld cd, .int .i64 b2.2.2] 98)) (.slice co lc cc) _) := hnc.below ((Below.refl _ _).alloc (Nat.le_refl _) _) (Nat.le_refl _)
  have ND : Hid (NatV (w2.alloc (Obj.cells #[.bool b1.1, .slice co lc cc, .int .i64 b1.2.2, .bool b2.1, .slice do_ ld cd, .int .i64 b2.2.2] 98)) (.slice do_ ld cd) _) := hnd.below ((Below.refl _ _).alloc (Nat.le_refl _) _) (Nat.le_refl _)
  clear C0 C1 C2 hW1 hb2 hS2 hlc hld hnc hnd HY
  go_wp2_with fail
  generalize hgb : w2.heap.size = gb at *
  generalize w2.alloc (Obj.cells #[.bool b1.1, .slice co lc cc, .int .i64 b1.2.2, .bool b2.1, .slice do_ ld cd, .int .i64 b2.2.2] 98) = W4 at *
  refine Calls.mono (negated_g b2 _ do_ ld cd LD.out ND.out) ?_
  rintro e w3 ⟨eo, le, ce, rfl, hle, hne, hb3⟩
  have LE : Hid (le = _) := hle
  have hS3 : Below W4.heap.size W4 (w3.alloc (Obj.cells #[.bool (negS b2.1 b2.2.1), .slice eo le ce, .int .i64 b2.2.2] 92)) := hb3.alloc hb3.size _
  have E1 := blk_old (blk_below D1 hb3) (Obj.cells #[.bool (negS b2.1 b2.2.1), .slice eo le ce, .int .i64 b2.2.2] 92)
  have E0 := blk_old (blk_below D0 hb3) (Obj.cells #[.bool (negS b2.1 b2.2.1), .slice eo le ce, .int .i64 b2.2.2] 92)
  have EB := blk_old (blk_below DB hb3) (Obj.cells #[.bool (negS b2.1 b2.2.1), .slice eo le ce, .int .i64 b2.2.2] 92)
  have EL := blk_new w3 (Obj.cells #[.bool (negS b2.1 b2.2.1), .slice eo le ce, .int .i64 b2.2.2] 92)
  have hW3 : Below w.heap.size w (w3.alloc (Obj.cells #[.bool (negS b2.1 b2.2.1), .slice eo le ce, .int .i64 b2.2.2] 92)) := (hW2.trans (hb3.mono hW2.size)).alloc (Nat.le_trans hW2.size hb3.size) _
  have NA : Hid (NatV (w3.alloc (Obj.cells #[.bool (negS b2.1 b2.2.1), .slice eo le ce, .int .i64 b2.2.2] 92)) (.slice ao la ca) _) := NA.out.below hS3 (Nat.le_refl _)
  have NB : Hid (NatV (w3.alloc (Obj.cells #[.bool (negS b2.1 b2.2.1), .slice eo le ce, .int .i64 b2.2.2] 92)) (.slice bo lb cb) _) := NB.out.below hS3 (Nat.le_refl _)
  have NC : Hid (NatV (w3.alloc (Obj.cells #[.bool (negS b2.1 b2.2.1), .slice eo le ce, .int .i64 b2.2.2] 92)) (.slice co lc cc) _) := NC.out.below hS3 (Nat.le_refl _)
  have ND : Hid (NatV (w3.alloc (Obj.cells #[.bool (negS b2.1 b2.2.1), .slice eo le ce, .int .i64 b2.2.2] 92)) (.slice do_ ld cd) _) := ND.out.below hS3 (Nat.le_refl _)
  have NE : Hid (NatV (w3.alloc (Obj.cells #[.bool (negS b2.1 b2.2.1), .slice eo le ce, .int .i64 b2.2.2] 92)) (.slice eo le ce) _) := hne.below ((Below.refl _ _).alloc (Nat.le_refl _) _) (Nat.le_refl _)
  obtain ⟨y0, y1, y2, -, -, -, -, -, -, -, -, -⟩ := blk6 (blk_below DB hb3)
  have ly := lt_of_row (blk_below DB hb3)
  clear D0 D1 DB hW2 hb3 hS3 hle hne
  go_wp2_with fail
  clear y0 y1 y2 ly
  generalize hgc : w3.heap.size = gc at *
  generalize w3.alloc (Obj.cells #[.bool (negS b2.1 b2.2.1), .slice eo le ce, .int .i64 b2.2.2] 92) = W5 at *
  refine Calls.mono (negated_g b1 _ co lc cc LC.out NC.out) ?_
  rintro e w4 ⟨fo, lf, cf, rfl, hlf, hnf, hb4⟩
  have LF : Hid (lf = _) := hlf
  have hS4 : Below W5.heap.size W5 (w4.alloc (Obj.cells #[.bool (negS b1.1 b1.2.1), .slice fo lf cf, .int .i64 b1.2.2] 92)) := hb4.alloc hb4.size _
  have NA : Hid (NatV (w4.alloc (Obj.cells #[.bool (negS b1.1 b1.2.1), .slice fo lf cf, .int .i64 b1.2.2] 92)) (.slice ao la ca) _) := NA.out.below hS4 (Nat.le_refl _)
  have NB : Hid (NatV (w4.alloc (Obj.cells #[.bool (negS b1.1 b1.2.1), .slice fo lf cf, .int .i64 b1.2.2] 92)) (.slice bo lb cb) _) := NB.out.below hS4 (Nat.le_refl _)
  have NC : Hid (NatV (w4.alloc (Obj.cells #[.bool (negS b1.1 b1.2.1), .slice fo lf cf, .int .i64 b1.2.2] 92)) (.slice co lc cc) _) := NC.out.below hS4 (Nat.le_refl _)
  have ND : Hid (NatV (w4.alloc (Obj.cells #[.bool (negS b1.1 b1.2.1), .slice fo lf cf, .int .i64 b1.2.2] 92)) (.slice do_ ld cd) _) := ND.out.below hS4 (Nat.le_refl _)
  have NE : Hid (NatV (w4.alloc (Obj.cells #[.bool (negS b1.1 b1.2.1), .slice fo lf cf, .int .i64 b1.2.2] 92)) (.slice eo le ce) _) := NE.out.below hS4 (Nat.le_refl _)
  have NF : Hid (NatV (w4.alloc (Obj.cells #[.bool (negS b1.1 b1.2.1), .slice fo lf cf, .int .i64 b1.2.2] 92)) (.slice fo lf cf) _) := hnf.below ((Below.refl _ _).alloc (Nat.le_refl _) _) (Nat.le_refl _)
  have m1 : Hid (ESt w (w4.alloc (Obj.cells #[.bool (negS b1.1 b1.2.1), .slice fo lf cf, .int .i64 b1.2.2] 92)) (w4.alloc (Obj.cells #[.bool (negS b1.1 b1.2.1), .slice fo lf cf, .int .i64 b1.2.2] 92)) (w.heap.size + 1 + 1) ga gb gc w4.heap.size #[.bool a1.1, .slice ao la ca, .int .i64 a1.2.2, .bool a2.1, .slice bo lb cb, .int .i64 a2.2.2] #[.bool b1.1, .slice co lc cc, .int .i64 b1.2.2, .bool b2.1, .slice do_ ld cd, .int .i64 b2.2.2] #[.bool (negS b2.1 b2.2.1), .slice eo le ce, .int .i64 b2.2.2] #[.bool (negS b1.1 b1.2.1), .slice fo lf cf, .int .i64 b1.2.2]) :=
    ⟨blk_old (blk_below E0 hb4) _, blk_old (blk_below EB hb4) _, blk_old (blk_below E1 hb4) _, blk_old (blk_below EL hb4) _, blk_new w4 _, (hW3.trans (hb4.mono hW3.size)).alloc (Nat.le_trans hW3.size hb4.size) _, Below.refl _ _, lt_of_row (blk_old (blk_below E0 hb4) (Obj.cells #[.bool (negS b1.1 b1.2.1), .slice fo lf cf, .int .i64 b1.2.2] 92)), lt_of_row (blk_old (blk_below EB hb4) (Obj.cells #[.bool (negS b1.1 b1.2.1), .slice fo lf cf, .int .i64 b1.2.2] 92)), lt_of_row (blk_old (blk_below E1 hb4) (Obj.cells #[.bool (negS b1.1 b1.2.1), .slice fo lf cf, .int .i64 b1.2.2] 92)), lt_of_row (blk_old (blk_below EL hb4) (Obj.cells #[.bool (negS b1.1 b1.2.1), .slice fo lf cf, .int .i64 b1.2.2] 92)), lt_of_row (blk_new w4 (Obj.cells #[.bool (negS b1.1 b1.2.1), .slice fo lf cf, .int .i64 b1.2.2] 92)), by omega⟩
  obtain ⟨x0, x1, x2, x3, x4, x5, -, -, -, -, -, -⟩ := blk6 (blk_below E0 hb4)
  obtain ⟨y0, y1, y2, y3, y4, y5, -, -, -, -, -, -⟩ := blk6 (blk_below EB hb4)
  have lx := lt_of_row (blk_below E0 hb4)
  have ly := lt_of_row (blk_below EB hb4)
  clear E0 E1 EB EL hW3 hb4 hS4 hlf hnf hga hgb hgc
  go_wp2_with fail
  clear x0 x1 x2 x3 x4 x5 y0 y1 y2 y3 y4 y5 lx ly
  generalize hgd : w4.heap.size = gd at *
  generalize w4.alloc (Obj.cells #[.bool (negS b1.1 b1.2.1), .slice fo lf cf, .int .i64 b1.2.2] 92) = u at *
  refine Calls.mono (sign_any _ a1.1 a1.2.1 a1.2.2 _ ⟨_, _, _, rfl, LA.out, NA.out⟩) ?_
  rintro ev v2 ⟨rfl, hb9⟩
  have m9 : Hid (ESt w u v2 _ _ _ _ _ _ _ _ _) := m1.out.below hb9
  have hsg := HSG.out
  clear hb9
  obtain ⟨q0, q1, q2, q3⟩ := blk2 m9.out.k2
  go_wp2_with fail
  obtain ⟨p0, p1, -, -⟩ := blk2 (blk_store2 (a := .int .u64 0) (b := .int .u64 0) m9.out.k2)
  refine bodyPost_ret (v := .tuple #[.agg #[.int .u64 0, .int .u64 0], .int .i64 5, .string ⟨#[115, 113, 114, 116]⟩]) (by simp [results, Tryz.results29, go_sem, p0, p1]) rfl ?_
  exact ⟨rfl, (m9.out.hb.setCell (by exact m9.out.l2) _).setCell (by exact m9.out.l2) _⟩
end Go.Proofs.YtonhpkigoplmaaaGreatDoor
