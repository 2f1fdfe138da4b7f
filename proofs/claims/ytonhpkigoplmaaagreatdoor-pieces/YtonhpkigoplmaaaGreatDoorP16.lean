/-
  OpP, OpU.
-/
import Derived.Test.YtonhpkigoplmaaaGreatDoorP13
import Derived.Deep.DeepCutAuto
namespace Go.Proofs.YtonhpkigoplmaaaGreatDoor
open Go.RowKit

set_option maxHeartbeats 20000000 in
set_option maxRecDepth 100000 in
theorem refOp_mul (xl xh yl yh : Nat) (a1 a2 b1 b2 : Bool × Nat × Int) (q0 q1 q2 q3 : Bool × Nat × Int) (r1 r2 r3 : Nat) (w : World) (hx : MadeG #[.agg #[.int .u64 (xl : Int), .int .u64 (xh : Int)]] a1 a2) (hy : MadeG #[.agg #[.int .u64 (yl : Int), .int .u64 (yh : Int)]] b1 b2) (hq0 : ∀ (W : World) (po qo : Option Addr) (lp cp lq cq : Nat), lp = (digits a1.2.1).length → NatV W (.slice po lp cp) a1.2.1 → lq = (digits b1.2.1).length → NatV W (.slice qo lq cq) b1.2.1 → Calls Tryz.prog 67 #[.agg #[.bool a1.1, .slice po lp cp, .int .i64 a1.2.2], .agg #[.bool b1.1, .slice qo lq cq, .int .i64 b1.2.2]] W fun ev w'' => ∃ vo vl vc, ev = .returned (.agg #[.bool q0.1, .slice vo vl vc, .int .i64 q0.2.2]) ∧ vl = (digits q0.2.1).length ∧ NatV w'' (.slice vo vl vc) q0.2.1 ∧ Below W.heap.size W w'') (hq1 : ∀ (W : World) (po qo : Option Addr) (lp cp lq cq : Nat), lp = (digits a1.2.1).length → NatV W (.slice po lp cp) a1.2.1 → lq = (digits b2.2.1).length → NatV W (.slice qo lq cq) b2.2.1 → Calls Tryz.prog 67 #[.agg #[.bool a1.1, .slice po lp cp, .int .i64 a1.2.2], .agg #[.bool b2.1, .slice qo lq cq, .int .i64 b2.2.2]] W fun ev w'' => ∃ vo vl vc, ev = .returned (.agg #[.bool q1.1, .slice vo vl vc, .int .i64 q1.2.2]) ∧ vl = (digits q1.2.1).length ∧ NatV w'' (.slice vo vl vc) q1.2.1 ∧ Below W.heap.size W w'') (hq2 : ∀ (W : World) (po qo : Option Addr) (lp cp lq cq : Nat), lp = (digits a2.2.1).length → NatV W (.slice po lp cp) a2.2.1 → lq = (digits b1.2.1).length → NatV W (.slice qo lq cq) b1.2.1 → Calls Tryz.prog 67 #[.agg #[.bool a2.1, .slice po lp cp, .int .i64 a2.2.2], .agg #[.bool b1.1, .slice qo lq cq, .int .i64 b1.2.2]] W fun ev w'' => ∃ vo vl vc, ev = .returned (.agg #[.bool q2.1, .slice vo vl vc, .int .i64 q2.2.2]) ∧ vl = (digits q2.2.1).length ∧ NatV w'' (.slice vo vl vc) q2.2.1 ∧ Below W.heap.size W w'') (hq3 : ∀ (W : World) (po qo : Option Addr) (lp cp lq cq : Nat), lp = (digits a2.2.1).length → NatV W (.slice po lp cp) a2.2.1 → lq = (digits b2.2.1).length → NatV W (.slice qo lq cq) b2.2.1 → Calls Tryz.prog 67 #[.agg #[.bool a2.1, .slice po lp cp, .int .i64 a2.2.2], .agg #[.bool b2.1, .slice qo lq cq, .int .i64 b2.2.2]] W fun ev w'' => ∃ vo vl vc, ev = .returned (.agg #[.bool q3.1, .slice vo vl vc, .int .i64 q3.2.2]) ∧ vl = (digits q3.2.1).length ∧ NatV w'' (.slice vo vl vc) q3.2.1 ∧ Below W.heap.size W w'') (hr : ∀ (g : Nat) (W : World) (o0 o1 o2 o3 : Option Addr) (l0 l1 l2 l3 c0 c1 c2 c3 : Nat), W.heap[g]? = some (.cells #[.bool q0.1, .slice o0 l0 c0, .int .i64 q0.2.2, .bool q1.1, .slice o1 l1 c1, .int .i64 q1.2.2, .bool q2.1, .slice o2 l2 c2, .int .i64 q2.2.2, .bool q3.1, .slice o3 l3 c3, .int .i64 q3.2.2] 92 (0, 0)) → l0 = (digits q0.2.1).length → l1 = (digits q1.2.1).length → l2 = (digits q2.2.1).length → l3 = (digits q3.2.1).length → NatV W (.slice o0 l0 c0) q0.2.1 → NatV W (.slice o1 l1 c1) q1.2.1 → NatV W (.slice o2 l2 c2) q2.2.1 → NatV W (.slice o3 l3 c3) q3.2.1 → Calls Tryz.prog 63 #[.slice (some ⟨g, 0, none⟩) 4 4] W fun ev w' => ev = .returned (.tuple #[.agg #[.int .u64 (r1 : Int), .int .u64 (r2 : Int)], .int .i64 (r3 : Int)]) ∧ Below W.heap.size W w') :
    Calls Tryz.prog 29 #[.int .i64 5, .agg #[.int .u64 (xl : Int), .int .u64 (xh : Int)], .agg #[.int .u64 (yl : Int), .int .u64 (yh : Int)]] w fun e w' => e = .returned (.tuple #[.agg #[.int .u64 ((nameT (r1, r2, r3) ⟨#[42]⟩).1 : Int), .int .u64 ((nameT (r1, r2, r3) ⟨#[42]⟩).2.1 : Int)], .int .i64 ((nameT (r1, r2, r3) ⟨#[42]⟩).2.2.1 : Int), .string (nameT (r1, r2, r3) ⟨#[42]⟩).2.2.2]) ∧ Below w.heap.size w w' := by
  have HX : Hid (MadeG #[.agg #[.int .u64 (xl : Int), .int .u64 (xh : Int)]] a1 a2) := hx
  have HY : Hid (MadeG #[.agg #[.int .u64 (yl : Int), .int .u64 (yh : Int)]] b1 b2) := hy
  clear hx hy
  have Hq0 : Hid (∀ (W : World) (po qo : Option Addr) (lp cp lq cq : Nat), lp = (digits a1.2.1).length → NatV W (.slice po lp cp) a1.2.1 → lq = (digits b1.2.1).length → NatV W (.slice qo lq cq) b1.2.1 → Calls Tryz.prog 67 #[.agg #[.bool a1.1, .slice po lp cp, .int .i64 a1.2.2], .agg #[.bool b1.1, .slice qo lq cq, .int .i64 b1.2.2]] W fun ev w'' => ∃ vo vl vc, ev = .returned (.agg #[.bool q0.1, .slice vo vl vc, .int .i64 q0.2.2]) ∧ vl = (digits q0.2.1).length ∧ NatV w'' (.slice vo vl vc) q0.2.1 ∧ Below W.heap.size W w'') := hq0
  clear hq0
  have Hq1 : Hid (∀ (W : World) (po qo : Option Addr) (lp cp lq cq : Nat), lp = (digits a1.2.1).length → NatV W (.slice po lp cp) a1.2.1 → lq = (digits b2.2.1).length → NatV W (.slice qo lq cq) b2.2.1 → Calls Tryz.prog 67 #[.agg #[.bool a1.1, .slice po lp cp, .int .i64 a1.2.2], .agg #[.bool b2.1, .slice qo lq cq, .int .i64 b2.2.2]] W fun ev w'' => ∃ vo vl vc, ev = .returned (.agg #[.bool q1.1, .slice vo vl vc, .int .i64 q1.2.2]) ∧ vl = (digits q1.2.1).length ∧ NatV w'' (.slice vo vl vc) q1.2.1 ∧ Below W.heap.size W w'') := hq1
  clear hq1
  have Hq2 : Hid (∀ (W : World) (po qo : Option Addr) (lp cp lq cq : Nat), lp = (digits a2.2.1).length → NatV W (.slice po lp cp) a2.2.1 → lq = (digits b1.2.1).length → NatV W (.slice qo lq cq) b1.2.1 → Calls Tryz.prog 67 #[.agg #[.bool a2.1, .slice po lp cp, .int .i64 a2.2.2], .agg #[.bool b1.1, .slice qo lq cq, .int .i64 b1.2.2]] W fun ev w'' => ∃ vo vl vc, ev = .returned (.agg #[.bool q2.1, .slice vo vl vc, .int .i64 q2.2.2]) ∧ vl = (digits q2.2.1).length ∧ NatV w'' (.slice vo vl vc) q2.2.1 ∧ Below W.heap.size W w'') := hq2
  clear hq2
  have Hq3 : Hid (∀ (W : World) (po qo : Option Addr) (lp cp lq cq : Nat), lp = (digits a2.2.1).length → NatV W (.slice po lp cp) a2.2.1 → lq = (digits b2.2.1).length → NatV W (.slice qo lq cq) b2.2.1 → Calls Tryz.prog 67 #[.agg #[.bool a2.1, .slice po lp cp, .int .i64 a2.2.2], .agg #[.bool b2.1, .slice qo lq cq, .int .i64 b2.2.2]] W fun ev w'' => ∃ vo vl vc, ev = .returned (.agg #[.bool q3.1, .slice vo vl vc, .int .i64 q3.2.2]) ∧ vl = (digits q3.2.1).length ∧ NatV w'' (.slice vo vl vc) q3.2.1 ∧ Below W.heap.size W w'') := hq3
  clear hq3
  have HSP : Hid (∀ (g : Nat) (W : World) (o0 o1 o2 o3 : Option Addr) (l0 l1 l2 l3 c0 c1 c2 c3 : Nat), W.heap[g]? = some (.cells #[.bool q0.1, .slice o0 l0 c0, .int .i64 q0.2.2, .bool q1.1, .slice o1 l1 c1, .int .i64 q1.2.2, .bool q2.1, .slice o2 l2 c2, .int .i64 q2.2.2, .bool q3.1, .slice o3 l3 c3, .int .i64 q3.2.2] 92 (0, 0)) → l0 = (digits q0.2.1).length → l1 = (digits q1.2.1).length → l2 = (digits q2.2.1).length → l3 = (digits q3.2.1).length → NatV W (.slice o0 l0 c0) q0.2.1 → NatV W (.slice o1 l1 c1) q1.2.1 → NatV W (.slice o2 l2 c2) q2.2.1 → NatV W (.slice o3 l3 c3) q3.2.1 → Calls Tryz.prog 63 #[.slice (some ⟨g, 0, none⟩) 4 4] W fun ev w' => ev = .returned (.tuple #[.agg #[.int .u64 (r1 : Int), .int .u64 (r2 : Int)], .int .i64 (r3 : Int)]) ∧ Below W.heap.size W w') := hr
  clear hr
  have HNM : Hid (∀ w, Calls Tryz.prog 66 #[.agg #[.int .u64 (r1 : Int), .int .u64 (r2 : Int)], .int .i64 (r3 : Int), .string ⟨#[42]⟩] w fun e w' => e = .returned (.tuple #[.agg #[.int .u64 ((nameT (r1, r2, r3) ⟨#[42]⟩).1 : Int), .int .u64 ((nameT (r1, r2, r3) ⟨#[42]⟩).2.1 : Int)], .int .i64 ((nameT (r1, r2, r3) ⟨#[42]⟩).2.2.1 : Int), .string (nameT (r1, r2, r3) ⟨#[42]⟩).2.2.2]) ∧ Below w.heap.size w w') := fun w => named_any r1 r2 r3 ⟨#[42]⟩ w
  go_enter Tryz.func29, Tryz.ntmps29
  go_wp2_with fail
  have B1 := blk_old (blk_new (w.alloc (Obj.cells #[.int .u64 (xl : Int), .int .u64 (xh : Int)] 28)) (Obj.cells #[.int .u64 (yl : Int), .int .u64 (yh : Int)] 28)) (Obj.cells #[.int .u64 0, .int .u64 0] 28)
  have B2 := blk_new ((w.alloc (Obj.cells #[.int .u64 (xl : Int), .int .u64 (xh : Int)] 28)).alloc (Obj.cells #[.int .u64 (yl : Int), .int .u64 (yh : Int)] 28)) (Obj.cells #[.int .u64 0, .int .u64 0] 28)
  have hW : Below w.heap.size w (((w.alloc (Obj.cells #[.int .u64 (xl : Int), .int .u64 (xh : Int)] 28)).alloc (Obj.cells #[.int .u64 (yl : Int), .int .u64 (yh : Int)] 28)).alloc (Obj.cells #[.int .u64 0, .int .u64 0] 28)) := (((Below.refl _ _).alloc (Nat.le_refl _) _).alloc (by simp) _).alloc (by simp; omega) _
  simp only [World.size_alloc] at B1 B2
  generalize (((w.alloc (Obj.cells #[.int .u64 (xl : Int), .int .u64 (xh : Int)] 28)).alloc (Obj.cells #[.int .u64 (yl : Int), .int .u64 (yh : Int)] 28)).alloc (Obj.cells #[.int .u64 0, .int .u64 0] 28)) = W2 at *
  refine Calls.mono (HX.out _) ?_
  rintro e w1 ⟨ao, la, ca, bo, lb, cb, rfl, hla, hlb, hna, hnb, hb1⟩
  have LA : Hid (la = _) := hla
  have LB : Hid (lb = _) := hlb
  have NA : Hid (NatV (w1.alloc (Obj.cells #[.bool a1.1, .slice ao la ca, .int .i64 a1.2.2, .bool a2.1, .slice bo lb cb, .int .i64 a2.2.2] 98)) (.slice ao la ca) _) := hna.below ((Below.refl _ _).alloc (Nat.le_refl _) _) (Nat.le_refl _)
  have NB : Hid (NatV (w1.alloc (Obj.cells #[.bool a1.1, .slice ao la ca, .int .i64 a1.2.2, .bool a2.1, .slice bo lb cb, .int .i64 a2.2.2] 98)) (.slice bo lb cb) _) := hnb.below ((Below.refl _ _).alloc (Nat.le_refl _) _) (Nat.le_refl _)
  have C1 := blk_old (blk_below B1 hb1) (Obj.cells #[.bool a1.1, .slice ao la ca, .int .i64 a1.2.2, .bool a2.1, .slice bo lb cb, .int .i64 a2.2.2] 98)
  have C2 := blk_old (blk_below B2 hb1) (Obj.cells #[.bool a1.1, .slice ao la ca, .int .i64 a1.2.2, .bool a2.1, .slice bo lb cb, .int .i64 a2.2.2] 98)
  have C0 := blk_new w1 (Obj.cells #[.bool a1.1, .slice ao la ca, .int .i64 a1.2.2, .bool a2.1, .slice bo lb cb, .int .i64 a2.2.2] 98)
  have hW1 : Below w.heap.size w (w1.alloc (Obj.cells #[.bool a1.1, .slice ao la ca, .int .i64 a1.2.2, .bool a2.1, .slice bo lb cb, .int .i64 a2.2.2] 98)) := (hW.trans (hb1.mono hW.size)).alloc (Nat.le_trans hW.size hb1.size) _
  obtain ⟨y0, y1, -, -⟩ := blk2 (blk_below B1 hb1)
  have ly := lt_of_row (blk_below B1 hb1)
  clear B1 B2 hW hb1 hla hlb hna hnb HX
  go_wp2_with fail
  clear y0 y1 ly
  generalize hga : w1.heap.size = ga at *
  generalize w1.alloc (Obj.cells #[.bool a1.1, .slice ao la ca, .int .i64 a1.2.2, .bool a2.1, .slice bo lb cb, .int .i64 a2.2.2] 98) = W3 at *
  refine Calls.mono (HY.out _) ?_
  rintro e w2 ⟨co, lc, cc, do_, ld, cd, rfl, hlc, hld, hnc, hnd, hb2⟩
  have LC : Hid (lc = _) := hlc
  have LD : Hid (ld = _) := hld
  have D1 := blk_old (blk_below C2 hb2) (Obj.cells #[.bool b1.1, .slice co lc cc, .int .i64 b1.2.2, .bool b2.1, .slice do_ ld cd, .int .i64 b2.2.2] 98)
  have D0 := blk_old (blk_below C0 hb2) (Obj.cells #[.bool b1.1, .slice co lc cc, .int .i64 b1.2.2, .bool b2.1, .slice do_ ld cd, .int .i64 b2.2.2] 98)
  have DB := blk_new w2 (Obj.cells #[.bool b1.1, .slice co lc cc, .int .i64 b1.2.2, .bool b2.1, .slice do_ ld cd, .int .i64 b2.2.2] 98)
  have hW2 : Below w.heap.size w (w2.alloc (Obj.cells #[.bool b1.1, .slice co lc cc, .int .i64 b1.2.2, .bool b2.1, .slice do_ ld cd, .int .i64 b2.2.2] 98)) := (hW1.trans (hb2.mono hW1.size)).alloc (Nat.le_trans hW1.size hb2.size) _
  have hS2 : Below W3.heap.size W3 (w2.alloc (Obj.cells #[.bool b1.1, .slice co lc cc, .int .i64 b1.2.2, .bool b2.1, .slice do_ ld cd, .int .i64 b2.2.2] 98)) := hb2.alloc hb2.size _
  have NA : Hid (NatV (w2.alloc (Obj.cells #[.bool b1.1, .slice co lc cc, .int .i64 b1.2.2, .bool b2.1, .slice do_ ld cd, .int .i64 b2.2.2] 98)) (.slice ao la ca) _) := NA.out.below hS2 (Nat.le_refl _)
  have NB : Hid (NatV (w2.alloc (Obj.cells #[.bool b1.1, .slice co lc cc, .int .i64 b1.2.2, .bool b2.1, .slice do_ ld cd, .int .i64 b2.2.2] 98)) (.slice bo lb cb) _) := NB.out.below hS2 (Nat.le_refl _)
  have NC : Hid (NatV (w2.alloc (Obj.cells #[.bool b1.1, .slice co lc cc, .int .i64 b1.2.2, .bool b2.1, .slice do_ ld cd, .int .i64 b2.2.2] 98)) (.slice co lc cc) _) := hnc.below ((Below.refl _ _).alloc (Nat.le_refl _) _) (Nat.le_refl _)
  have ND : Hid (NatV (w2.alloc (Obj.cells #[.bool b1.1, .slice co lc cc, .int .i64 b1.2.2, .bool b2.1, .slice do_ ld cd, .int .i64 b2.2.2] 98)) (.slice do_ ld cd) _) := hnd.below ((Below.refl _ _).alloc (Nat.le_refl _) _) (Nat.le_refl _)
  clear C0 C1 C2 hW1 hb2 hS2 hlc hld hnc hnd HY
  go_wp2_with fail
  generalize hgb : w2.heap.size = gb at *
  generalize w2.alloc (Obj.cells #[.bool b1.1, .slice co lc cc, .int .i64 b1.2.2, .bool b2.1, .slice do_ ld cd, .int .i64 b2.2.2] 98) = W4 at *
  refine Calls.mono (negated_g b2 _ do_ ld cd LD.out ND.out) ?_
  rintro e w3 ⟨eo, le, ce, rfl, hle, hne, hb3⟩
  have LE : Hid (le = _) := hle
  have hS3 : Below W4.heap.size W4 (w3.alloc (Obj.cells #[.bool (negS b2.1 b2.2.1), .slice eo le ce, .int .i64 b2.2.2] 92)) := hb3.alloc hb3.size _
  have E1 := blk_old (blk_below D1 hb3) (Obj.cells #[.bool (negS b2.1 b2.2.1), .slice eo le ce, .int .i64 b2.2.2] 92)
  have E0 := blk_old (blk_below D0 hb3) (Obj.cells #[.bool (negS b2.1 b2.2.1), .slice eo le ce, .int .i64 b2.2.2] 92)
  have EB := blk_old (blk_below DB hb3) (Obj.cells #[.bool (negS b2.1 b2.2.1), .slice eo le ce, .int .i64 b2.2.2] 92)
  have EL := blk_new w3 (Obj.cells #[.bool (negS b2.1 b2.2.1), .slice eo le ce, .int .i64 b2.2.2] 92)
  have hW3 : Below w.heap.size w (w3.alloc (Obj.cells #[.bool (negS b2.1 b2.2.1), .slice eo le ce, .int .i64 b2.2.2] 92)) := (hW2.trans (hb3.mono hW2.size)).alloc (Nat.le_trans hW2.size hb3.size) _
  have NA : Hid (NatV (w3.alloc (Obj.cells #[.bool (negS b2.1 b2.2.1), .slice eo le ce, .int .i64 b2.2.2] 92)) (.slice ao la ca) _) := NA.out.below hS3 (Nat.le_refl _)
  have NB : Hid (NatV (w3.alloc (Obj.cells #[.bool (negS b2.1 b2.2.1), .slice eo le ce, .int .i64 b2.2.2] 92)) (.slice bo lb cb) _) := NB.out.below hS3 (Nat.le_refl _)
  have NC : Hid (NatV (w3.alloc (Obj.cells #[.bool (negS b2.1 b2.2.1), .slice eo le ce, .int .i64 b2.2.2] 92)) (.slice co lc cc) _) := NC.out.below hS3 (Nat.le_refl _)
  have ND : Hid (NatV (w3.alloc (Obj.cells #[.bool (negS b2.1 b2.2.1), .slice eo le ce, .int .i64 b2.2.2] 92)) (.slice do_ ld cd) _) := ND.out.below hS3 (Nat.le_refl _)
  have NE : Hid (NatV (w3.alloc (Obj.cells #[.bool (negS b2.1 b2.2.1), .slice eo le ce, .int .i64 b2.2.2] 92)) (.slice eo le ce) _) := hne.below ((Below.refl _ _).alloc (Nat.le_refl _) _) (Nat.le_refl _)
  obtain ⟨y0, y1, y2, -, -, -, -, -, -, -, -, -⟩ := blk6 (blk_below DB hb3)
  have ly := lt_of_row (blk_below DB hb3)
  clear D0 D1 DB hW2 hb3 hS3 hle hne
  go_wp2_with fail
  clear y0 y1 y2 ly
  generalize hgc : w3.heap.size = gc at *
  generalize w3.alloc (Obj.cells #[.bool (negS b2.1 b2.2.1), .slice eo le ce, .int .i64 b2.2.2] 92) = W5 at *
  refine Calls.mono (negated_g b1 _ co lc cc LC.out NC.out) ?_
  rintro e w4 ⟨fo, lf, cf, rfl, hlf, hnf, hb4⟩
  have LF : Hid (lf = _) := hlf
  have hS4 : Below W5.heap.size W5 (w4.alloc (Obj.cells #[.bool (negS b1.1 b1.2.1), .slice fo lf cf, .int .i64 b1.2.2] 92)) := hb4.alloc hb4.size _
  have NA : Hid (NatV (w4.alloc (Obj.cells #[.bool (negS b1.1 b1.2.1), .slice fo lf cf, .int .i64 b1.2.2] 92)) (.slice ao la ca) _) := NA.out.below hS4 (Nat.le_refl _)
  have NB : Hid (NatV (w4.alloc (Obj.cells #[.bool (negS b1.1 b1.2.1), .slice fo lf cf, .int .i64 b1.2.2] 92)) (.slice bo lb cb) _) := NB.out.below hS4 (Nat.le_refl _)
  have NC : Hid (NatV (w4.alloc (Obj.cells #[.bool (negS b1.1 b1.2.1), .slice fo lf cf, .int .i64 b1.2.2] 92)) (.slice co lc cc) _) := NC.out.below hS4 (Nat.le_refl _)
  have ND : Hid (NatV (w4.alloc (Obj.cells #[.bool (negS b1.1 b1.2.1), .slice fo lf cf, .int .i64 b1.2.2] 92)) (.slice do_ ld cd) _) := ND.out.below hS4 (Nat.le_refl _)
  have NE : Hid (NatV (w4.alloc (Obj.cells #[.bool (negS b1.1 b1.2.1), .slice fo lf cf, .int .i64 b1.2.2] 92)) (.slice eo le ce) _) := NE.out.below hS4 (Nat.le_refl _)
  have NF : Hid (NatV (w4.alloc (Obj.cells #[.bool (negS b1.1 b1.2.1), .slice fo lf cf, .int .i64 b1.2.2] 92)) (.slice fo lf cf) _) := hnf.below ((Below.refl _ _).alloc (Nat.le_refl _) _) (Nat.le_refl _)
  have m1 : Hid (ESt w (w4.alloc (Obj.cells #[.bool (negS b1.1 b1.2.1), .slice fo lf cf, .int .i64 b1.2.2] 92)) (w4.alloc (Obj.cells #[.bool (negS b1.1 b1.2.1), .slice fo lf cf, .int .i64 b1.2.2] 92)) (w.heap.size + 1 + 1) ga gb gc w4.heap.size #[.bool a1.1, .slice ao la ca, .int .i64 a1.2.2, .bool a2.1, .slice bo lb cb, .int .i64 a2.2.2] #[.bool b1.1, .slice co lc cc, .int .i64 b1.2.2, .bool b2.1, .slice do_ ld cd, .int .i64 b2.2.2] #[.bool (negS b2.1 b2.2.1), .slice eo le ce, .int .i64 b2.2.2] #[.bool (negS b1.1 b1.2.1), .slice fo lf cf, .int .i64 b1.2.2]) :=
    ⟨blk_old (blk_below E0 hb4) _, blk_old (blk_below EB hb4) _, blk_old (blk_below E1 hb4) _, blk_old (blk_below EL hb4) _, blk_new w4 _, (hW3.trans (hb4.mono hW3.size)).alloc (Nat.le_trans hW3.size hb4.size) _, Below.refl _ _, lt_of_row (blk_old (blk_below E0 hb4) (Obj.cells #[.bool (negS b1.1 b1.2.1), .slice fo lf cf, .int .i64 b1.2.2] 92)), lt_of_row (blk_old (blk_below EB hb4) (Obj.cells #[.bool (negS b1.1 b1.2.1), .slice fo lf cf, .int .i64 b1.2.2] 92)), lt_of_row (blk_old (blk_below E1 hb4) (Obj.cells #[.bool (negS b1.1 b1.2.1), .slice fo lf cf, .int .i64 b1.2.2] 92)), lt_of_row (blk_old (blk_below EL hb4) (Obj.cells #[.bool (negS b1.1 b1.2.1), .slice fo lf cf, .int .i64 b1.2.2] 92)), lt_of_row (blk_new w4 (Obj.cells #[.bool (negS b1.1 b1.2.1), .slice fo lf cf, .int .i64 b1.2.2] 92)), by omega⟩
  clear E0 E1 EB EL hW3 hb4 hS4 hlf hnf hga hgb hgc
  go_wp2_with fail
  generalize hgd : w4.heap.size = gd at *
  generalize w4.alloc (Obj.cells #[.bool (negS b1.1 b1.2.1), .slice fo lf cf, .int .i64 b1.2.2] 92) = u at *
  have Q0 : Hid (∀ W, Below u.heap.size u W → Calls Tryz.prog 67 #[.agg #[.bool a1.1, .slice ao la ca, .int .i64 a1.2.2], .agg #[.bool b1.1, .slice co lc cc, .int .i64 b1.2.2]] W fun ev w'' => ∃ vo vl vc, ev = .returned (.agg #[.bool q0.1, .slice vo vl vc, .int .i64 q0.2.2]) ∧ vl = (digits q0.2.1).length ∧ NatV w'' (.slice vo vl vc) q0.2.1 ∧ Below W.heap.size W w'') := fun W hb => Hq0.out W ao co la ca lc cc LA.out (NA.out.below hb (Nat.le_refl _)) LC.out (NC.out.below hb (Nat.le_refl _))
  have Q1 : Hid (∀ W, Below u.heap.size u W → Calls Tryz.prog 67 #[.agg #[.bool a1.1, .slice ao la ca, .int .i64 a1.2.2], .agg #[.bool b2.1, .slice do_ ld cd, .int .i64 b2.2.2]] W fun ev w'' => ∃ vo vl vc, ev = .returned (.agg #[.bool q1.1, .slice vo vl vc, .int .i64 q1.2.2]) ∧ vl = (digits q1.2.1).length ∧ NatV w'' (.slice vo vl vc) q1.2.1 ∧ Below W.heap.size W w'') := fun W hb => Hq1.out W ao do_ la ca ld cd LA.out (NA.out.below hb (Nat.le_refl _)) LD.out (ND.out.below hb (Nat.le_refl _))
  have Q2 : Hid (∀ W, Below u.heap.size u W → Calls Tryz.prog 67 #[.agg #[.bool a2.1, .slice bo lb cb, .int .i64 a2.2.2], .agg #[.bool b1.1, .slice co lc cc, .int .i64 b1.2.2]] W fun ev w'' => ∃ vo vl vc, ev = .returned (.agg #[.bool q2.1, .slice vo vl vc, .int .i64 q2.2.2]) ∧ vl = (digits q2.2.1).length ∧ NatV w'' (.slice vo vl vc) q2.2.1 ∧ Below W.heap.size W w'') := fun W hb => Hq2.out W bo co lb cb lc cc LB.out (NB.out.below hb (Nat.le_refl _)) LC.out (NC.out.below hb (Nat.le_refl _))
  have Q3 : Hid (∀ W, Below u.heap.size u W → Calls Tryz.prog 67 #[.agg #[.bool a2.1, .slice bo lb cb, .int .i64 a2.2.2], .agg #[.bool b2.1, .slice do_ ld cd, .int .i64 b2.2.2]] W fun ev w'' => ∃ vo vl vc, ev = .returned (.agg #[.bool q3.1, .slice vo vl vc, .int .i64 q3.2.2]) ∧ vl = (digits q3.2.1).length ∧ NatV w'' (.slice vo vl vc) q3.2.1 ∧ Below W.heap.size W w'') := fun W hb => Hq3.out W bo do_ lb cb ld cd LB.out (NB.out.below hb (Nat.le_refl _)) LD.out (ND.out.below hb (Nat.le_refl _))
  go_cut [23, 24] (fun s8 s9 wc => ∃ g, s8 = .pointer (some ⟨g, 0, none⟩) ∧ s9 = .int .i64 (r3 : Int) ∧ Fin w wc (w.heap.size + 1 + 1) g (.int .u64 (r1 : Int)) (.int .u64 (r2 : Int)))
  case first =>
    have iN : Hid (ESt w u u.drew (w.heap.size + 1 + 1) ga gb gc gd #[.bool a1.1, .slice ao la ca, .int .i64 a1.2.2, .bool a2.1, .slice bo lb cb, .int .i64 a2.2.2] #[.bool b1.1, .slice co lc cc, .int .i64 b1.2.2, .bool b2.1, .slice do_ ld cd, .int .i64 b2.2.2] #[.bool (negS b2.1 b2.2.1), .slice eo le ce, .int .i64 b2.2.2] #[.bool (negS b1.1 b1.2.1), .slice fo lf cf, .int .i64 b1.2.2]) := m1.out.drew
    go_region_held3 (fun W => W.cell? ⟨ga, 0, none⟩ = some (.bool a1.1) ∧ W.cell? ⟨ga, 1, none⟩ = some (.slice ao la ca) ∧ W.cell? ⟨ga, 2, none⟩ = some (.int .i64 a1.2.2) ∧ W.cell? ⟨ga, 3, none⟩ = some (.bool a2.1) ∧ W.cell? ⟨ga, 4, none⟩ = some (.slice bo lb cb) ∧ W.cell? ⟨ga, 5, none⟩ = some (.int .i64 a2.2.2) ∧ W.cell? ⟨gb, 0, none⟩ = some (.bool b1.1) ∧ W.cell? ⟨gb, 1, none⟩ = some (.slice co lc cc) ∧ W.cell? ⟨gb, 2, none⟩ = some (.int .i64 b1.2.2) ∧ W.cell? ⟨gb, 3, none⟩ = some (.bool b2.1) ∧ W.cell? ⟨gb, 4, none⟩ = some (.slice do_ ld cd) ∧ W.cell? ⟨gb, 5, none⟩ = some (.int .i64 b2.2.2)) (first | with_reducible exact iN.out.cells | with_reducible exact (m1.out.alloc _).drew.cells | with_reducible exact (iN.out.alloc _).cells | with_reducible exact ((iN.out.alloc _).alloc _).cells | with_reducible exact (iN.out.set2 zf.out _ _).cells)
      (first
        | (go_at_call 67; with_reducible (refine Calls.mono (Q0.out _ ?_) ?_); (with_reducible exact iN.out.hu); rintro e v0 ⟨o0, l0, c0, rfl, hl, hn, hbk⟩
           have E0 : Hid (l0 = _) := hl
           have N0 : Hid (NatV v0 (.slice o0 l0 c0) _) := hn
           have iN : Hid (ESt w u v0 (w.heap.size + 1 + 1) ga gb gc gd #[.bool a1.1, .slice ao la ca, .int .i64 a1.2.2, .bool a2.1, .slice bo lb cb, .int .i64 a2.2.2] #[.bool b1.1, .slice co lc cc, .int .i64 b1.2.2, .bool b2.1, .slice do_ ld cd, .int .i64 b2.2.2] #[.bool (negS b2.1 b2.2.1), .slice eo le ce, .int .i64 b2.2.2] #[.bool (negS b1.1 b1.2.1), .slice fo lf cf, .int .i64 b1.2.2]) := iN.out.below hbk
           clear hl hn hbk)
        | (go_at_call 67; with_reducible (refine Calls.mono (Q0.out _ ?_) ?_); (with_reducible exact (m1.out.alloc _).drew.hu); rintro e v0 ⟨o0, l0, c0, rfl, hl, hn, hbk⟩
           have E0 : Hid (l0 = _) := hl
           have N0 : Hid (NatV v0 (.slice o0 l0 c0) _) := hn
           have zf : Hid (Box0 u.heap.size v0 _) := (Box0.new m1.out.sz).drew.below hbk
           have iN : Hid (ESt w u v0 (w.heap.size + 1 + 1) ga gb gc gd #[.bool a1.1, .slice ao la ca, .int .i64 a1.2.2, .bool a2.1, .slice bo lb cb, .int .i64 a2.2.2] #[.bool b1.1, .slice co lc cc, .int .i64 b1.2.2, .bool b2.1, .slice do_ ld cd, .int .i64 b2.2.2] #[.bool (negS b2.1 b2.2.1), .slice eo le ce, .int .i64 b2.2.2] #[.bool (negS b1.1 b1.2.1), .slice fo lf cf, .int .i64 b1.2.2]) := (m1.out.alloc _).drew.below hbk
           clear hl hn hbk)
        | (go_at_call 67; with_reducible (refine Calls.mono (Q1.out _ ?_) ?_); (with_reducible exact iN.out.hu); rintro e v1 ⟨o1, l1, c1, rfl, hl, hn, hbk⟩
           have E1 : Hid (l1 = _) := hl
           have N1 : Hid (NatV v1 (.slice o1 l1 c1) _) := hn
           have N0 : Hid (NatV v1 (.slice o0 l0 c0) _) := N0.out.below hbk (Nat.le_refl _)
           try (have zf : Hid (Box0 u.heap.size v1 _) := zf.out.below hbk)
           have iN : Hid (ESt w u v1 (w.heap.size + 1 + 1) ga gb gc gd #[.bool a1.1, .slice ao la ca, .int .i64 a1.2.2, .bool a2.1, .slice bo lb cb, .int .i64 a2.2.2] #[.bool b1.1, .slice co lc cc, .int .i64 b1.2.2, .bool b2.1, .slice do_ ld cd, .int .i64 b2.2.2] #[.bool (negS b2.1 b2.2.1), .slice eo le ce, .int .i64 b2.2.2] #[.bool (negS b1.1 b1.2.1), .slice fo lf cf, .int .i64 b1.2.2]) := iN.out.below hbk
           clear hl hn hbk)
        | (go_at_call 67; with_reducible (refine Calls.mono (Q1.out _ ?_) ?_); (with_reducible exact (iN.out.alloc _).hu); rintro e v1 ⟨o1, l1, c1, rfl, hl, hn, hbk⟩
           have E1 : Hid (l1 = _) := hl
           have N1 : Hid (NatV v1 (.slice o1 l1 c1) _) := hn
           have N0 : Hid (NatV v1 (.slice o0 l0 c0) _) := (N0.out.below ((Below.refl _ _).alloc (Nat.le_refl _) _) (Nat.le_refl _)).below hbk (Nat.le_refl _)
           have zf : Hid (Box0 u.heap.size v1 _) := (Box0.new iN.out.sz).below hbk
           have iN : Hid (ESt w u v1 (w.heap.size + 1 + 1) ga gb gc gd #[.bool a1.1, .slice ao la ca, .int .i64 a1.2.2, .bool a2.1, .slice bo lb cb, .int .i64 a2.2.2] #[.bool b1.1, .slice co lc cc, .int .i64 b1.2.2, .bool b2.1, .slice do_ ld cd, .int .i64 b2.2.2] #[.bool (negS b2.1 b2.2.1), .slice eo le ce, .int .i64 b2.2.2] #[.bool (negS b1.1 b1.2.1), .slice fo lf cf, .int .i64 b1.2.2]) := (iN.out.alloc _).below hbk
           clear hl hn hbk)
        | (go_at_call 67; with_reducible (refine Calls.mono (Q2.out _ ?_) ?_); (with_reducible exact iN.out.hu); rintro e v2 ⟨o2, l2, c2, rfl, hl, hn, hbk⟩
           have E2 : Hid (l2 = _) := hl
           have N2 : Hid (NatV v2 (.slice o2 l2 c2) _) := hn
           have N0 : Hid (NatV v2 (.slice o0 l0 c0) _) := N0.out.below hbk (Nat.le_refl _)
           have N1 : Hid (NatV v2 (.slice o1 l1 c1) _) := N1.out.below hbk (Nat.le_refl _)
           try (have zf : Hid (Box0 u.heap.size v2 _) := zf.out.below hbk)
           have iN : Hid (ESt w u v2 (w.heap.size + 1 + 1) ga gb gc gd #[.bool a1.1, .slice ao la ca, .int .i64 a1.2.2, .bool a2.1, .slice bo lb cb, .int .i64 a2.2.2] #[.bool b1.1, .slice co lc cc, .int .i64 b1.2.2, .bool b2.1, .slice do_ ld cd, .int .i64 b2.2.2] #[.bool (negS b2.1 b2.2.1), .slice eo le ce, .int .i64 b2.2.2] #[.bool (negS b1.1 b1.2.1), .slice fo lf cf, .int .i64 b1.2.2]) := iN.out.below hbk
           clear hl hn hbk)
        | (go_at_call 67; with_reducible (refine Calls.mono (Q2.out _ ?_) ?_); (with_reducible exact (iN.out.alloc _).hu); rintro e v2 ⟨o2, l2, c2, rfl, hl, hn, hbk⟩
           have E2 : Hid (l2 = _) := hl
           have N2 : Hid (NatV v2 (.slice o2 l2 c2) _) := hn
           have N0 : Hid (NatV v2 (.slice o0 l0 c0) _) := (N0.out.below ((Below.refl _ _).alloc (Nat.le_refl _) _) (Nat.le_refl _)).below hbk (Nat.le_refl _)
           have N1 : Hid (NatV v2 (.slice o1 l1 c1) _) := (N1.out.below ((Below.refl _ _).alloc (Nat.le_refl _) _) (Nat.le_refl _)).below hbk (Nat.le_refl _)
           have zf : Hid (Box0 u.heap.size v2 _) := (Box0.new iN.out.sz).below hbk
           have iN : Hid (ESt w u v2 (w.heap.size + 1 + 1) ga gb gc gd #[.bool a1.1, .slice ao la ca, .int .i64 a1.2.2, .bool a2.1, .slice bo lb cb, .int .i64 a2.2.2] #[.bool b1.1, .slice co lc cc, .int .i64 b1.2.2, .bool b2.1, .slice do_ ld cd, .int .i64 b2.2.2] #[.bool (negS b2.1 b2.2.1), .slice eo le ce, .int .i64 b2.2.2] #[.bool (negS b1.1 b1.2.1), .slice fo lf cf, .int .i64 b1.2.2]) := (iN.out.alloc _).below hbk
           clear hl hn hbk)
        | (go_at_call 67; with_reducible (refine Calls.mono (Q3.out _ ?_) ?_); (with_reducible exact iN.out.hu); rintro e v3 ⟨o3, l3, c3, rfl, hl, hn, hbk⟩
           have E3 : Hid (l3 = _) := hl
           have N3 : Hid (NatV v3 (.slice o3 l3 c3) _) := hn
           have N0 : Hid (NatV v3 (.slice o0 l0 c0) _) := N0.out.below hbk (Nat.le_refl _)
           have N1 : Hid (NatV v3 (.slice o1 l1 c1) _) := N1.out.below hbk (Nat.le_refl _)
           have N2 : Hid (NatV v3 (.slice o2 l2 c2) _) := N2.out.below hbk (Nat.le_refl _)
           try (have zf : Hid (Box0 u.heap.size v3 _) := zf.out.below hbk)
           have iN : Hid (ESt w u v3 (w.heap.size + 1 + 1) ga gb gc gd #[.bool a1.1, .slice ao la ca, .int .i64 a1.2.2, .bool a2.1, .slice bo lb cb, .int .i64 a2.2.2] #[.bool b1.1, .slice co lc cc, .int .i64 b1.2.2, .bool b2.1, .slice do_ ld cd, .int .i64 b2.2.2] #[.bool (negS b2.1 b2.2.1), .slice eo le ce, .int .i64 b2.2.2] #[.bool (negS b1.1 b1.2.1), .slice fo lf cf, .int .i64 b1.2.2]) := iN.out.below hbk
           clear hl hn hbk)
        | (go_at_call 67; with_reducible (refine Calls.mono (Q3.out _ ?_) ?_); (with_reducible exact (iN.out.alloc _).hu); rintro e v3 ⟨o3, l3, c3, rfl, hl, hn, hbk⟩
           have E3 : Hid (l3 = _) := hl
           have N3 : Hid (NatV v3 (.slice o3 l3 c3) _) := hn
           have N0 : Hid (NatV v3 (.slice o0 l0 c0) _) := (N0.out.below ((Below.refl _ _).alloc (Nat.le_refl _) _) (Nat.le_refl _)).below hbk (Nat.le_refl _)
           have N1 : Hid (NatV v3 (.slice o1 l1 c1) _) := (N1.out.below ((Below.refl _ _).alloc (Nat.le_refl _) _) (Nat.le_refl _)).below hbk (Nat.le_refl _)
           have N2 : Hid (NatV v3 (.slice o2 l2 c2) _) := (N2.out.below ((Below.refl _ _).alloc (Nat.le_refl _) _) (Nat.le_refl _)).below hbk (Nat.le_refl _)
           have zf : Hid (Box0 u.heap.size v3 _) := (Box0.new iN.out.sz).below hbk
           have iN : Hid (ESt w u v3 (w.heap.size + 1 + 1) ga gb gc gd #[.bool a1.1, .slice ao la ca, .int .i64 a1.2.2, .bool a2.1, .slice bo lb cb, .int .i64 a2.2.2] #[.bool b1.1, .slice co lc cc, .int .i64 b1.2.2, .bool b2.1, .slice do_ ld cd, .int .i64 b2.2.2] #[.bool (negS b2.1 b2.2.1), .slice eo le ce, .int .i64 b2.2.2] #[.bool (negS b1.1 b1.2.1), .slice fo lf cf, .int .i64 b1.2.2]) := (iN.out.alloc _).below hbk
           clear hl hn hbk)
        | (go_at_call 63; refine Calls.mono (HSP.out _ _ o0 o1 o2 o3 l0 l1 l2 l3 c0 c1 c2 c3 ?_ E0.out E1.out E2.out E3.out ?_ ?_ ?_ ?_) ?_
           · exact blk_new v3 _
           · exact N0.out.below ((Below.refl _ v3).alloc (Nat.le_refl _) _) (Nat.le_refl _)
           · exact N1.out.below ((Below.refl _ v3).alloc (Nat.le_refl _) _) (Nat.le_refl _)
           · exact N2.out.below ((Below.refl _ v3).alloc (Nat.le_refl _) _) (Nat.le_refl _)
           · exact N3.out.below ((Below.refl _ v3).alloc (Nat.le_refl _) _) (Nat.le_refl _)
           rintro e v4 ⟨rfl, hbk⟩
           try (have zf : Hid (Box0 u.heap.size v4 _) := (zf.out.alloc _).below hbk; obtain ⟨zc0, zc1, zc2, zc3⟩ := blk2 zf.out.1)
           have iN : Hid (ESt w u v4 (w.heap.size + 1 + 1) ga gb gc gd #[.bool a1.1, .slice ao la ca, .int .i64 a1.2.2, .bool a2.1, .slice bo lb cb, .int .i64 a2.2.2] #[.bool b1.1, .slice co lc cc, .int .i64 b1.2.2, .bool b2.1, .slice do_ ld cd, .int .i64 b2.2.2] #[.bool (negS b2.1 b2.2.1), .slice eo le ce, .int .i64 b2.2.2] #[.bool (negS b1.1 b1.2.1), .slice fo lf cf, .int .i64 b1.2.2]) := (iN.out.alloc _).below hbk
           clear hbk)
        | (go_at_call 63; refine Calls.mono (HSP.out _ _ o0 o1 o2 o3 l0 l1 l2 l3 c0 c1 c2 c3 ?_ E0.out E1.out E2.out E3.out ?_ ?_ ?_ ?_) ?_
           · exact blk_old (blk_new v3 _) _
           · exact N0.out.below (((Below.refl _ v3).alloc (Nat.le_refl _) _).alloc (by simp) _) (Nat.le_refl _)
           · exact N1.out.below (((Below.refl _ v3).alloc (Nat.le_refl _) _).alloc (by simp) _) (Nat.le_refl _)
           · exact N2.out.below (((Below.refl _ v3).alloc (Nat.le_refl _) _).alloc (by simp) _) (Nat.le_refl _)
           · exact N3.out.below (((Below.refl _ v3).alloc (Nat.le_refl _) _).alloc (by simp) _) (Nat.le_refl _)
           rintro e v4 ⟨rfl, hbk⟩
           have zf : Hid (Box0 u.heap.size v4 (v3.heap.size + 1)) := by
             have hz := (Box0.new (iN.out.alloc (Obj.cells #[.bool q0.1, .slice o0 l0 c0, .int .i64 q0.2.2, .bool q1.1, .slice o1 l1 c1, .int .i64 q1.2.2, .bool q2.1, .slice o2 l2 c2, .int .i64 q2.2.2, .bool q3.1, .slice o3 l3 c3, .int .i64 q3.2.2] 92)).sz).below hbk
             simp only [World.size_alloc] at hz
             exact hz
           obtain ⟨zc0, zc1, zc2, zc3⟩ := blk2 zf.out.1
           have iN : Hid (ESt w u v4 (w.heap.size + 1 + 1) ga gb gc gd #[.bool a1.1, .slice ao la ca, .int .i64 a1.2.2, .bool a2.1, .slice bo lb cb, .int .i64 a2.2.2] #[.bool b1.1, .slice co lc cc, .int .i64 b1.2.2, .bool b2.1, .slice do_ ld cd, .int .i64 b2.2.2] #[.bool (negS b2.1 b2.2.1), .slice eo le ce, .int .i64 b2.2.2] #[.bool (negS b1.1 b1.2.1), .slice fo lf cf, .int .i64 b1.2.2]) := ((iN.out.alloc _).alloc _).below hbk
           clear hbk)
        | (go_at_call 63; refine Calls.mono (HSP.out _ _ o0 o1 o2 o3 l0 l1 l2 l3 c0 c1 c2 c3 ?_ E0.out E1.out E2.out E3.out ?_ ?_ ?_ ?_) ?_
           · (have hgx := blk_new (v3.alloc (Obj.cells #[.int .u64 0, .int .u64 0] 28)) (Obj.cells #[.bool q0.1, .slice o0 l0 c0, .int .i64 q0.2.2, .bool q1.1, .slice o1 l1 c1, .int .i64 q1.2.2, .bool q2.1, .slice o2 l2 c2, .int .i64 q2.2.2, .bool q3.1, .slice o3 l3 c3, .int .i64 q3.2.2] 92); simp only [World.size_alloc] at hgx; exact hgx)
           · exact N0.out.below (((Below.refl _ v3).alloc (Nat.le_refl _) _).alloc (by simp) _) (Nat.le_refl _)
           · exact N1.out.below (((Below.refl _ v3).alloc (Nat.le_refl _) _).alloc (by simp) _) (Nat.le_refl _)
           · exact N2.out.below (((Below.refl _ v3).alloc (Nat.le_refl _) _).alloc (by simp) _) (Nat.le_refl _)
           · exact N3.out.below (((Below.refl _ v3).alloc (Nat.le_refl _) _).alloc (by simp) _) (Nat.le_refl _)
           rintro e v4 ⟨rfl, hbk⟩
           have zf : Hid (Box0 u.heap.size v4 v3.heap.size) := ((Box0.new iN.out.sz).alloc _).below hbk
           obtain ⟨zc0, zc1, zc2, zc3⟩ := blk2 zf.out.1
           have iN : Hid (ESt w u v4 (w.heap.size + 1 + 1) ga gb gc gd #[.bool a1.1, .slice ao la ca, .int .i64 a1.2.2, .bool a2.1, .slice bo lb cb, .int .i64 a2.2.2] #[.bool b1.1, .slice co lc cc, .int .i64 b1.2.2, .bool b2.1, .slice do_ ld cd, .int .i64 b2.2.2] #[.bool (negS b2.1 b2.2.1), .slice eo le ce, .int .i64 b2.2.2] #[.bool (negS b1.1 b1.2.1), .slice fo lf cf, .int .i64 b1.2.2]) := ((iN.out.alloc _).alloc _).below hbk
           clear hbk))
    all_goals (go_wp2_with fail; go_meet; refine ⟨_, rfl, rfl, ?_⟩)
    all_goals first | with_reducible exact iN.out.finSet zf.out _ _ | with_reducible exact iN.out.finNew _ _
  case rest =>
    obtain ⟨g, rfl, rfl, F⟩ := hcut
    have HF : Hid (Fin w wc (w.heap.size + 1 + 1) g (.int .u64 (r1 : Int)) (.int .u64 (r2 : Int))) := F
    obtain ⟨p0, p1, -, -⟩ := blk2 F.c
    clear F
    go_wp2_with fail
    refine Calls.mono (HNM.out _) ?_
    rintro ev w9 ⟨rfl, hb9⟩
    have HK : Hid (w9.heap[(w.heap.size + 1 + 1)]? = _) := blk_below HF.out.k2 hb9
    have HB : Hid (Below w.heap.size w w9) := HF.out.hb.trans (hb9.mono HF.out.hb.size)
    clear hb9 p0 p1
    obtain ⟨q0, q1, q2, q3⟩ := blk2 HK.out
    go_wp2_with fail
    obtain ⟨p0, p1, -, -⟩ := blk2 (blk_store2 (a := .int .u64 ((nameT (r1, r2, r3) ⟨#[42]⟩).1 : Int)) (b := .int .u64 ((nameT (r1, r2, r3) ⟨#[42]⟩).2.1 : Int)) HK.out)
    refine bodyPost_ret (v := .tuple #[.agg #[.int .u64 ((nameT (r1, r2, r3) ⟨#[42]⟩).1 : Int), .int .u64 ((nameT (r1, r2, r3) ⟨#[42]⟩).2.1 : Int)], .int .i64 ((nameT (r1, r2, r3) ⟨#[42]⟩).2.2.1 : Int), .string (nameT (r1, r2, r3) ⟨#[42]⟩).2.2.2]) (by simp [results, Tryz.results29, go_sem, p0, p1]) rfl ?_
    exact ⟨rfl, (HB.out.setCell (by exact HF.out.l2) _).setCell (by exact HF.out.l2) _⟩
end Go.Proofs.YtonhpkigoplmaaaGreatDoor
namespace Go.Proofs.YtonhpkigoplmaaaGreatDoor
open Go.RowKit

set_option maxHeartbeats 20000000 in
set_option maxRecDepth 100000 in
theorem refOp_sqrt (xl xh yl yh : Nat) (a1 a2 b1 b2 : Bool × Nat × Int) (q0 q1 : Bool × Nat × Int) (r1 r2 r3 : Nat) (w : World) (hx : MadeG #[.agg #[.int .u64 (xl : Int), .int .u64 (xh : Int)]] a1 a2) (hy : MadeG #[.agg #[.int .u64 (yl : Int), .int .u64 (yh : Int)]] b1 b2) (hs : ¬ sgnI a1.1 a1.2.1 < 0) (hq0 : ∀ (W : World) (po : Option Addr) (lp cp : Nat), lp = (digits a1.2.1).length → NatV W (.slice po lp cp) a1.2.1 → Calls Tryz.prog 70 #[.agg #[.bool a1.1, .slice po lp cp, .int .i64 a1.2.2]] W fun ev w'' => ∃ vo vl vc, ev = .returned (.agg #[.bool q0.1, .slice vo vl vc, .int .i64 q0.2.2]) ∧ vl = (digits q0.2.1).length ∧ NatV w'' (.slice vo vl vc) q0.2.1 ∧ Below W.heap.size W w'') (hq1 : ∀ (W : World) (po : Option Addr) (lp cp : Nat), lp = (digits a2.2.1).length → NatV W (.slice po lp cp) a2.2.1 → Calls Tryz.prog 70 #[.agg #[.bool a2.1, .slice po lp cp, .int .i64 a2.2.2]] W fun ev w'' => ∃ vo vl vc, ev = .returned (.agg #[.bool q1.1, .slice vo vl vc, .int .i64 q1.2.2]) ∧ vl = (digits q1.2.1).length ∧ NatV w'' (.slice vo vl vc) q1.2.1 ∧ Below W.heap.size W w'') (hr : ∀ (W : World) (o0 o1 : Option Addr) (l0 l1 c0 c1 : Nat), l0 = (digits q0.2.1).length → l1 = (digits q1.2.1).length → NatV W (.slice o0 l0 c0) q0.2.1 → NatV W (.slice o1 l1 c1) q1.2.1 → Calls Tryz.prog 62 #[.agg #[.bool q0.1, .slice o0 l0 c0, .int .i64 q0.2.2], .agg #[.bool q1.1, .slice o1 l1 c1, .int .i64 q1.2.2]] W fun ev w' => ev = .returned (.tuple #[.agg #[.int .u64 (r1 : Int), .int .u64 (r2 : Int)], .int .i64 (r3 : Int)]) ∧ Below W.heap.size W w') :
    Calls Tryz.prog 29 #[.int .i64 7, .agg #[.int .u64 (xl : Int), .int .u64 (xh : Int)], .agg #[.int .u64 (yl : Int), .int .u64 (yh : Int)]] w fun e w' => e = .returned (.tuple #[.agg #[.int .u64 ((nameT (r1, r2, r3) ⟨#[115, 113, 114, 116]⟩).1 : Int), .int .u64 ((nameT (r1, r2, r3) ⟨#[115, 113, 114, 116]⟩).2.1 : Int)], .int .i64 ((nameT (r1, r2, r3) ⟨#[115, 113, 114, 116]⟩).2.2.1 : Int), .string (nameT (r1, r2, r3) ⟨#[115, 113, 114, 116]⟩).2.2.2]) ∧ Below w.heap.size w w' := by
  have HX : Hid (MadeG #[.agg #[.int .u64 (xl : Int), .int .u64 (xh : Int)]] a1 a2) := hx
  have HY : Hid (MadeG #[.agg #[.int .u64 (yl : Int), .int .u64 (yh : Int)]] b1 b2) := hy
  clear hx hy
  have HSG : Hid (¬ sgnI a1.1 a1.2.1 < 0) := hs
  clear hs
  have Hq0 : Hid (∀ (W : World) (po : Option Addr) (lp cp : Nat), lp = (digits a1.2.1).length → NatV W (.slice po lp cp) a1.2.1 → Calls Tryz.prog 70 #[.agg #[.bool a1.1, .slice po lp cp, .int .i64 a1.2.2]] W fun ev w'' => ∃ vo vl vc, ev = .returned (.agg #[.bool q0.1, .slice vo vl vc, .int .i64 q0.2.2]) ∧ vl = (digits q0.2.1).length ∧ NatV w'' (.slice vo vl vc) q0.2.1 ∧ Below W.heap.size W w'') := hq0
  clear hq0
  have Hq1 : Hid (∀ (W : World) (po : Option Addr) (lp cp : Nat), lp = (digits a2.2.1).length → NatV W (.slice po lp cp) a2.2.1 → Calls Tryz.prog 70 #[.agg #[.bool a2.1, .slice po lp cp, .int .i64 a2.2.2]] W fun ev w'' => ∃ vo vl vc, ev = .returned (.agg #[.bool q1.1, .slice vo vl vc, .int .i64 q1.2.2]) ∧ vl = (digits q1.2.1).length ∧ NatV w'' (.slice vo vl vc) q1.2.1 ∧ Below W.heap.size W w'') := hq1
  clear hq1
  have HAR : Hid (∀ (W : World) (o0 o1 : Option Addr) (l0 l1 c0 c1 : Nat), l0 = (digits q0.2.1).length → l1 = (digits q1.2.1).length → NatV W (.slice o0 l0 c0) q0.2.1 → NatV W (.slice o1 l1 c1) q1.2.1 → Calls Tryz.prog 62 #[.agg #[.bool q0.1, .slice o0 l0 c0, .int .i64 q0.2.2], .agg #[.bool q1.1, .slice o1 l1 c1, .int .i64 q1.2.2]] W fun ev w' => ev = .returned (.tuple #[.agg #[.int .u64 (r1 : Int), .int .u64 (r2 : Int)], .int .i64 (r3 : Int)]) ∧ Below W.heap.size W w') := hr
  clear hr
  have HNM : Hid (∀ w, Calls Tryz.prog 66 #[.agg #[.int .u64 (r1 : Int), .int .u64 (r2 : Int)], .int .i64 (r3 : Int), .string ⟨#[115, 113, 114, 116]⟩] w fun e w' => e = .returned (.tuple #[.agg #[.int .u64 ((nameT (r1, r2, r3) ⟨#[115, 113, 114, 116]⟩).1 : Int), .int .u64 ((nameT (r1, r2, r3) ⟨#[115, 113, 114, 116]⟩).2.1 : Int)], .int .i64 ((nameT (r1, r2, r3) ⟨#[115, 113, 114, 116]⟩).2.2.1 : Int), .string (nameT (r1, r2, r3) ⟨#[115, 113, 114, 116]⟩).2.2.2]) ∧ Below w.heap.size w w') := fun w => named_any r1 r2 r3 ⟨#[115, 113, 114, 116]⟩ w
  go_enter Tryz.func29, Tryz.ntmps29
  go_wp2_with fail
  have B1 := blk_old (blk_new (w.alloc (Obj.cells #[.int .u64 (xl : Int), .int .u64 (xh : Int)] 28)) (Obj.cells #[.int .u64 (yl : Int), .int .u64 (yh : Int)] 28)) (Obj.cells #[.int .u64 0, .int .u64 0] 28)
  have B2 := blk_new ((w.alloc (Obj.cells #[.int .u64 (xl : Int), .int .u64 (xh : Int)] 28)).alloc (Obj.cells #[.int .u64 (yl : Int), .int .u64 (yh : Int)] 28)) (Obj.cells #[.int .u64 0, .int .u64 0] 28)
  have hW : Below w.heap.size w (((w.alloc (Obj.cells #[.int .u64 (xl : Int), .int .u64 (xh : Int)] 28)).alloc (Obj.cells #[.int .u64 (yl : Int), .int .u64 (yh : Int)] 28)).alloc (Obj.cells #[.int .u64 0, .int .u64 0] 28)) := (((Below.refl _ _).alloc (Nat.le_refl _) _).alloc (by simp) _).alloc (by simp; omega) _
  simp only [World.size_alloc] at B1 B2
  generalize (((w.alloc (Obj.cells #[.int .u64 (xl : Int), .int .u64 (xh : Int)] 28)).alloc (Obj.cells #[.int .u64 (yl : Int), .int .u64 (yh : Int)] 28)).alloc (Obj.cells #[.int .u64 0, .int .u64 0] 28)) = W2 at *
  refine Calls.mono (HX.out _) ?_
  rintro e w1 ⟨ao, la, ca, bo, lb, cb, rfl, hla, hlb, hna, hnb, hb1⟩
  have LA : Hid (la = _) := hla
  have LB : Hid (lb = _) := hlb
  have NA : Hid (NatV (w1.alloc (Obj.cells #[.bool a1.1, .slice ao la ca, .int .i64 a1.2.2, .bool a2.1, .slice bo lb cb, .int .i64 a2.2.2] 98)) (.slice ao la ca) _) := hna.below ((Below.refl _ _).alloc (Nat.le_refl _) _) (Nat.le_refl _)
  have NB : Hid (NatV (w1.alloc (Obj.cells #[.bool a1.1, .slice ao la ca, .int .i64 a1.2.2, .bool a2.1, .slice bo lb cb, .int .i64 a2.2.2] 98)) (.slice bo lb cb) _) := hnb.below ((Below.refl _ _).alloc (Nat.le_refl _) _) (Nat.le_refl _)
  have C1 := blk_old (blk_below B1 hb1) (Obj.cells #[.bool a1.1, .slice ao la ca, .int .i64 a1.2.2, .bool a2.1, .slice bo lb cb, .int .i64 a2.2.2] 98)
  have C2 := blk_old (blk_below B2 hb1) (Obj.cells #[.bool a1.1, .slice ao la ca, .int .i64 a1.2.2, .bool a2.1, .slice bo lb cb, .int .i64 a2.2.2] 98)
  have C0 := blk_new w1 (Obj.cells #[.bool a1.1, .slice ao la ca, .int .i64 a1.2.2, .bool a2.1, .slice bo lb cb, .int .i64 a2.2.2] 98)
  have hW1 : Below w.heap.size w (w1.alloc (Obj.cells #[.bool a1.1, .slice ao la ca, .int .i64 a1.2.2, .bool a2.1, .slice bo lb cb, .int .i64 a2.2.2] 98)) := (hW.trans (hb1.mono hW.size)).alloc (Nat.le_trans hW.size hb1.size) _
  obtain ⟨y0, y1, -, -⟩ := blk2 (blk_below B1 hb1)
  have ly := lt_of_row (blk_below B1 hb1)
  clear B1 B2 hW hb1 hla hlb hna hnb HX
  go_wp2_with fail
  clear y0 y1 ly
  generalize hga : w1.heap.size = ga at *
  generalize w1.alloc (Obj.cells #[.bool a1.1, .slice ao la ca, .int .i64 a1.2.2, .bool a2.1, .slice bo lb cb, .int .i64 a2.2.2] 98) = W3 at *
  refine Calls.mono (HY.out _) ?_
  rintro e w2 ⟨co, lc, cc, do_, ld, cd, rfl, hlc, hld, hnc, hnd, hb2⟩
  have LC : Hid (lc = _) := hlc
  have LD : Hid (ld = _) := hld
  have D1 := blk_old (blk_below C2 hb2) (Obj.cells #[.bool b1.1, .slice co lc cc, .int .i64 b1.2.2, .bool b2.1, .slice do_ ld cd, .int .i64 b2.2.2] 98)
  have D0 := blk_old (blk_below C0 hb2) (Obj.cells #[.bool b1.1, .slice co lc cc, .int .i64 b1.2.2, .bool b2.1, .slice do_ ld cd, .int .i64 b2.2.2] 98)
  have DB := blk_new w2 (Obj.cells #[.bool b1.1, .slice co lc cc, .int .i64 b1.2.2, .bool b2.1, .slice do_ ld cd, .int .i64 b2.2.2] 98)
  have hW2 : Below w.heap.size w (w2.alloc (Obj.cells #[.bool b1.1, .slice co lc cc, .int .i64 b1.2.2, .bool b2.1, .slice do_ ld cd, .int .i64 b2.2.2] 98)) := (hW1.trans (hb2.mono hW1.size)).alloc (Nat.le_trans hW1.size hb2.size) _
  have hS2 : Below W3.heap.size W3 (w2.alloc (Obj.cells #[.bool b1.1, .slice co lc cc, .int .i64 b1.2.2, .bool b2.1, .slice do_ ld cd, .int .i64 b2.2.2] 98)) := hb2.alloc hb2.size _
  have NA : Hid (NatV (w2.alloc (Obj.cells #[.bool b1.1, .slice co lc cc, .int .i64 b1.2.2, .bool b2.1, .slice do_ ld cd, .int .i64 b2.2.2] 98)) (.slice ao la ca) _) := NA.out.below hS2 (Nat.le_refl _)
  have NB : Hid (NatV (w2.alloc (Obj.cells #[.bool b1.1, .slice co lc cc, .int .i64 b1.2.2, .bool b2.1, .slice do_ ld cd, .int .i64 b2.2.2] 98)) (.slice bo lb cb) _) := NB.out.below hS2 (Nat.le_refl _)
  have NC : Hid (NatV (w2.alloc (Obj.cells #[.bool b1.1, .slice co lc cc, .int .i64 b1.2.2, .bool b2.1, .slice do_ ld cd, .int .i64 b2.2.2] 98)) (.slice co lc cc) _) := hnc.below ((Below.refl _ _).alloc (Nat.le_refl _) _) (Nat.le_refl _)
  have ND : Hid (NatV (w2.alloc (Obj.cells #[.bool b1.1, .slice co lc cc, .int .i64 b1.2.2, .bool b2.1, .slice do_ ld cd, .int .i64 b2.2.2] 98)) (.slice do_ ld cd) _) := hnd.below ((Below.refl _ _).alloc (Nat.le_refl _) _) (Nat.le_refl _)
  clear C0 C1 C2 hW1 hb2 hS2 hlc hld hnc hnd HY
  go_wp2_with fail
  generalize hgb : w2.heap.size = gb at *
  generalize w2.alloc (Obj.cells #[.bool b1.1, .slice co lc cc, .int .i64 b1.2.2, .bool b2.1, .slice do_ ld cd, .int .i64 b2.2.2] 98) = W4 at *
  refine Calls.mono (negated_g b2 _ do_ ld cd LD.out ND.out) ?_
  rintro e w3 ⟨eo, le, ce, rfl, hle, hne, hb3⟩
  have LE : Hid (le = _) := hle
  have hS3 : Below W4.heap.size W4 (w3.alloc (Obj.cells #[.bool (negS b2.1 b2.2.1), .slice eo le ce, .int .i64 b2.2.2] 92)) := hb3.alloc hb3.size _
  have E1 := blk_old (blk_below D1 hb3) (Obj.cells #[.bool (negS b2.1 b2.2.1), .slice eo le ce, .int .i64 b2.2.2] 92)
  have E0 := blk_old (blk_below D0 hb3) (Obj.cells #[.bool (negS b2.1 b2.2.1), .slice eo le ce, .int .i64 b2.2.2] 92)
  have EB := blk_old (blk_below DB hb3) (Obj.cells #[.bool (negS b2.1 b2.2.1), .slice eo le ce, .int .i64 b2.2.2] 92)
  have EL := blk_new w3 (Obj.cells #[.bool (negS b2.1 b2.2.1), .slice eo le ce, .int .i64 b2.2.2] 92)
  have hW3 : Below w.heap.size w (w3.alloc (Obj.cells #[.bool (negS b2.1 b2.2.1), .slice eo le ce, .int .i64 b2.2.2] 92)) := (hW2.trans (hb3.mono hW2.size)).alloc (Nat.le_trans hW2.size hb3.size) _
  have NA : Hid (NatV (w3.alloc (Obj.cells #[.bool (negS b2.1 b2.2.1), .slice eo le ce, .int .i64 b2.2.2] 92)) (.slice ao la ca) _) := NA.out.below hS3 (Nat.le_refl _)
  have NB : Hid (NatV (w3.alloc (Obj.cells #[.bool (negS b2.1 b2.2.1), .slice eo le ce, .int .i64 b2.2.2] 92)) (.slice bo lb cb) _) := NB.out.below hS3 (Nat.le_refl _)
  have NC : Hid (NatV (w3.alloc (Obj.cells #[.bool (negS b2.1 b2.2.1), .slice eo le ce, .int .i64 b2.2.2] 92)) (.slice co lc cc) _) := NC.out.below hS3 (Nat.le_refl _)
  have ND : Hid (NatV (w3.alloc (Obj.cells #[.bool (negS b2.1 b2.2.1), .slice eo le ce, .int .i64 b2.2.2] 92)) (.slice do_ ld cd) _) := ND.out.below hS3 (Nat.le_refl _)
  have NE : Hid (NatV (w3.alloc (Obj.cells #[.bool (negS b2.1 b2.2.1), .slice eo le ce, .int .i64 b2.2.2] 92)) (.slice eo le ce) _) := hne.below ((Below.refl _ _).alloc (Nat.le_refl _) _) (Nat.le_refl _)
  obtain ⟨y0, y1, y2, -, -, -, -, -, -, -, -, -⟩ := blk6 (blk_below DB hb3)
  have ly := lt_of_row (blk_below DB hb3)
  clear D0 D1 DB hW2 hb3 hS3 hle hne
  go_wp2_with fail
  clear y0 y1 y2 ly
  generalize hgc : w3.heap.size = gc at *
  generalize w3.alloc (Obj.cells #[.bool (negS b2.1 b2.2.1), .slice eo le ce, .int .i64 b2.2.2] 92) = W5 at *
  refine Calls.mono (negated_g b1 _ co lc cc LC.out NC.out) ?_
  rintro e w4 ⟨fo, lf, cf, rfl, hlf, hnf, hb4⟩
  have LF : Hid (lf = _) := hlf
  have hS4 : Below W5.heap.size W5 (w4.alloc (Obj.cells #[.bool (negS b1.1 b1.2.1), .slice fo lf cf, .int .i64 b1.2.2] 92)) := hb4.alloc hb4.size _
  have NA : Hid (NatV (w4.alloc (Obj.cells #[.bool (negS b1.1 b1.2.1), .slice fo lf cf, .int .i64 b1.2.2] 92)) (.slice ao la ca) _) := NA.out.below hS4 (Nat.le_refl _)
  have NB : Hid (NatV (w4.alloc (Obj.cells #[.bool (negS b1.1 b1.2.1), .slice fo lf cf, .int .i64 b1.2.2] 92)) (.slice bo lb cb) _) := NB.out.below hS4 (Nat.le_refl _)
  have NC : Hid (NatV (w4.alloc (Obj.cells #[.bool (negS b1.1 b1.2.1), .slice fo lf cf, .int .i64 b1.2.2] 92)) (.slice co lc cc) _) := NC.out.below hS4 (Nat.le_refl _)
  have ND : Hid (NatV (w4.alloc (Obj.cells #[.bool (negS b1.1 b1.2.1), .slice fo lf cf, .int .i64 b1.2.2] 92)) (.slice do_ ld cd) _) := ND.out.below hS4 (Nat.le_refl _)
  have NE : Hid (NatV (w4.alloc (Obj.cells #[.bool (negS b1.1 b1.2.1), .slice fo lf cf, .int .i64 b1.2.2] 92)) (.slice eo le ce) _) := NE.out.below hS4 (Nat.le_refl _)
  have NF : Hid (NatV (w4.alloc (Obj.cells #[.bool (negS b1.1 b1.2.1), .slice fo lf cf, .int .i64 b1.2.2] 92)) (.slice fo lf cf) _) := hnf.below ((Below.refl _ _).alloc (Nat.le_refl _) _) (Nat.le_refl _)
  have m1 : Hid (ESt w (w4.alloc (Obj.cells #[.bool (negS b1.1 b1.2.1), .slice fo lf cf, .int .i64 b1.2.2] 92)) (w4.alloc (Obj.cells #[.bool (negS b1.1 b1.2.1), .slice fo lf cf, .int .i64 b1.2.2] 92)) (w.heap.size + 1 + 1) ga gb gc w4.heap.size #[.bool a1.1, .slice ao la ca, .int .i64 a1.2.2, .bool a2.1, .slice bo lb cb, .int .i64 a2.2.2] #[.bool b1.1, .slice co lc cc, .int .i64 b1.2.2, .bool b2.1, .slice do_ ld cd, .int .i64 b2.2.2] #[.bool (negS b2.1 b2.2.1), .slice eo le ce, .int .i64 b2.2.2] #[.bool (negS b1.1 b1.2.1), .slice fo lf cf, .int .i64 b1.2.2]) :=
    ⟨blk_old (blk_below E0 hb4) _, blk_old (blk_below EB hb4) _, blk_old (blk_below E1 hb4) _, blk_old (blk_below EL hb4) _, blk_new w4 _, (hW3.trans (hb4.mono hW3.size)).alloc (Nat.le_trans hW3.size hb4.size) _, Below.refl _ _, lt_of_row (blk_old (blk_below E0 hb4) (Obj.cells #[.bool (negS b1.1 b1.2.1), .slice fo lf cf, .int .i64 b1.2.2] 92)), lt_of_row (blk_old (blk_below EB hb4) (Obj.cells #[.bool (negS b1.1 b1.2.1), .slice fo lf cf, .int .i64 b1.2.2] 92)), lt_of_row (blk_old (blk_below E1 hb4) (Obj.cells #[.bool (negS b1.1 b1.2.1), .slice fo lf cf, .int .i64 b1.2.2] 92)), lt_of_row (blk_old (blk_below EL hb4) (Obj.cells #[.bool (negS b1.1 b1.2.1), .slice fo lf cf, .int .i64 b1.2.2] 92)), lt_of_row (blk_new w4 (Obj.cells #[.bool (negS b1.1 b1.2.1), .slice fo lf cf, .int .i64 b1.2.2] 92)), by omega⟩
  obtain ⟨x0, x1, x2, x3, x4, x5, -, -, -, -, -, -⟩ := blk6 (blk_below E0 hb4)
  obtain ⟨y0, y1, y2, y3, y4, y5, -, -, -, -, -, -⟩ := blk6 (blk_below EB hb4)
  have lx := lt_of_row (blk_below E0 hb4)
  have ly := lt_of_row (blk_below EB hb4)
  clear E0 E1 EB EL hW3 hb4 hS4 hlf hnf hga hgb hgc
  go_wp2_with fail
  clear x0 x1 x2 x3 x4 x5 y0 y1 y2 y3 y4 y5 lx ly
  generalize hgd : w4.heap.size = gd at *
  generalize w4.alloc (Obj.cells #[.bool (negS b1.1 b1.2.1), .slice fo lf cf, .int .i64 b1.2.2] 92) = u at *
  refine Calls.mono (sign_any _ a1.1 a1.2.1 a1.2.2 _ ⟨_, _, _, rfl, LA.out, NA.out⟩) ?_
  rintro ev v9 ⟨rfl, hb9⟩
  have NA : Hid (NatV v9 (.slice ao la ca) _) := NA.out.below hb9 (Nat.le_refl _)
  have NB : Hid (NatV v9 (.slice bo lb cb) _) := NB.out.below hb9 (Nat.le_refl _)
  have m1 : Hid (ESt w v9 v9 _ ga gb gc gd #[.bool a1.1, .slice ao la ca, .int .i64 a1.2.2, .bool a2.1, .slice bo lb cb, .int .i64 a2.2.2] #[.bool b1.1, .slice co lc cc, .int .i64 b1.2.2, .bool b2.1, .slice do_ ld cd, .int .i64 b2.2.2] #[.bool (negS b2.1 b2.2.1), .slice eo le ce, .int .i64 b2.2.2] #[.bool (negS b1.1 b1.2.1), .slice fo lf cf, .int .i64 b1.2.2]) := (fun m => ⟨m.k0, m.k1, m.k2, m.kc, m.kd, m.hb, Below.refl _ _, lt_of_row m.k0, lt_of_row m.k1, lt_of_row m.k2, lt_of_row m.kc, lt_of_row m.kd, m.l2⟩) (m1.out.below hb9)
  have hsg := HSG.out
  clear hb9 NC ND NE NF
  go_wp2_with fail
  clear hsg
  generalize v9 = u at *
  have Q0 : Hid (∀ W, Below u.heap.size u W → Calls Tryz.prog 70 #[.agg #[.bool a1.1, .slice ao la ca, .int .i64 a1.2.2]] W fun ev w'' => ∃ vo vl vc, ev = .returned (.agg #[.bool q0.1, .slice vo vl vc, .int .i64 q0.2.2]) ∧ vl = (digits q0.2.1).length ∧ NatV w'' (.slice vo vl vc) q0.2.1 ∧ Below W.heap.size W w'') := fun W hb => Hq0.out W ao la ca LA.out (NA.out.below hb (Nat.le_refl _))
  have Q1 : Hid (∀ W, Below u.heap.size u W → Calls Tryz.prog 70 #[.agg #[.bool a2.1, .slice bo lb cb, .int .i64 a2.2.2]] W fun ev w'' => ∃ vo vl vc, ev = .returned (.agg #[.bool q1.1, .slice vo vl vc, .int .i64 q1.2.2]) ∧ vl = (digits q1.2.1).length ∧ NatV w'' (.slice vo vl vc) q1.2.1 ∧ Below W.heap.size W w'') := fun W hb => Hq1.out W bo lb cb LB.out (NB.out.below hb (Nat.le_refl _))
  go_cut [25, 26] (fun s8 s9 wc => ∃ g, s8 = .pointer (some ⟨g, 0, none⟩) ∧ s9 = .int .i64 (r3 : Int) ∧ Fin w wc (w.heap.size + 1 + 1) g (.int .u64 (r1 : Int)) (.int .u64 (r2 : Int)))
  case first =>
    have iN : Hid (ESt w u u.drew (w.heap.size + 1 + 1) ga gb gc gd #[.bool a1.1, .slice ao la ca, .int .i64 a1.2.2, .bool a2.1, .slice bo lb cb, .int .i64 a2.2.2] #[.bool b1.1, .slice co lc cc, .int .i64 b1.2.2, .bool b2.1, .slice do_ ld cd, .int .i64 b2.2.2] #[.bool (negS b2.1 b2.2.1), .slice eo le ce, .int .i64 b2.2.2] #[.bool (negS b1.1 b1.2.1), .slice fo lf cf, .int .i64 b1.2.2]) := m1.out.drew
    go_region_held3 (fun W => W.cell? ⟨ga, 0, none⟩ = some (.bool a1.1) ∧ W.cell? ⟨ga, 1, none⟩ = some (.slice ao la ca) ∧ W.cell? ⟨ga, 2, none⟩ = some (.int .i64 a1.2.2) ∧ W.cell? ⟨ga, 3, none⟩ = some (.bool a2.1) ∧ W.cell? ⟨ga, 4, none⟩ = some (.slice bo lb cb) ∧ W.cell? ⟨ga, 5, none⟩ = some (.int .i64 a2.2.2) ∧ W.cell? ⟨gb, 0, none⟩ = some (.bool b1.1) ∧ W.cell? ⟨gb, 1, none⟩ = some (.slice co lc cc) ∧ W.cell? ⟨gb, 2, none⟩ = some (.int .i64 b1.2.2) ∧ W.cell? ⟨gb, 3, none⟩ = some (.bool b2.1) ∧ W.cell? ⟨gb, 4, none⟩ = some (.slice do_ ld cd) ∧ W.cell? ⟨gb, 5, none⟩ = some (.int .i64 b2.2.2)) (first | with_reducible exact iN.out.cells | with_reducible exact (m1.out.alloc _).drew.cells | with_reducible exact (iN.out.alloc _).cells | with_reducible exact ((iN.out.alloc _).alloc _).cells | with_reducible exact (iN.out.set2 zf.out _ _).cells)
      (first
        | (go_at_call 70; with_reducible (refine Calls.mono (Q0.out _ ?_) ?_); (with_reducible exact iN.out.hu); rintro e v0 ⟨o0, l0, c0, rfl, hl, hn, hbk⟩
           have E0 : Hid (l0 = _) := hl
           have N0 : Hid (NatV v0 (.slice o0 l0 c0) _) := hn
           have iN : Hid (ESt w u v0 (w.heap.size + 1 + 1) ga gb gc gd #[.bool a1.1, .slice ao la ca, .int .i64 a1.2.2, .bool a2.1, .slice bo lb cb, .int .i64 a2.2.2] #[.bool b1.1, .slice co lc cc, .int .i64 b1.2.2, .bool b2.1, .slice do_ ld cd, .int .i64 b2.2.2] #[.bool (negS b2.1 b2.2.1), .slice eo le ce, .int .i64 b2.2.2] #[.bool (negS b1.1 b1.2.1), .slice fo lf cf, .int .i64 b1.2.2]) := iN.out.below hbk
           clear hl hn hbk)
        | (go_at_call 70; with_reducible (refine Calls.mono (Q0.out _ ?_) ?_); (with_reducible exact (m1.out.alloc _).drew.hu); rintro e v0 ⟨o0, l0, c0, rfl, hl, hn, hbk⟩
           have E0 : Hid (l0 = _) := hl
           have N0 : Hid (NatV v0 (.slice o0 l0 c0) _) := hn
           have zf : Hid (Box0 u.heap.size v0 _) := (Box0.new m1.out.sz).drew.below hbk
           have iN : Hid (ESt w u v0 (w.heap.size + 1 + 1) ga gb gc gd #[.bool a1.1, .slice ao la ca, .int .i64 a1.2.2, .bool a2.1, .slice bo lb cb, .int .i64 a2.2.2] #[.bool b1.1, .slice co lc cc, .int .i64 b1.2.2, .bool b2.1, .slice do_ ld cd, .int .i64 b2.2.2] #[.bool (negS b2.1 b2.2.1), .slice eo le ce, .int .i64 b2.2.2] #[.bool (negS b1.1 b1.2.1), .slice fo lf cf, .int .i64 b1.2.2]) := (m1.out.alloc _).drew.below hbk
           clear hl hn hbk)
        | (go_at_call 70; with_reducible (refine Calls.mono (Q1.out _ ?_) ?_); (with_reducible exact iN.out.hu); rintro e v1 ⟨o1, l1, c1, rfl, hl, hn, hbk⟩
           have E1 : Hid (l1 = _) := hl
           have N1 : Hid (NatV v1 (.slice o1 l1 c1) _) := hn
           have N0 : Hid (NatV v1 (.slice o0 l0 c0) _) := N0.out.below hbk (Nat.le_refl _)
           try (have zf : Hid (Box0 u.heap.size v1 _) := zf.out.below hbk)
           have iN : Hid (ESt w u v1 (w.heap.size + 1 + 1) ga gb gc gd #[.bool a1.1, .slice ao la ca, .int .i64 a1.2.2, .bool a2.1, .slice bo lb cb, .int .i64 a2.2.2] #[.bool b1.1, .slice co lc cc, .int .i64 b1.2.2, .bool b2.1, .slice do_ ld cd, .int .i64 b2.2.2] #[.bool (negS b2.1 b2.2.1), .slice eo le ce, .int .i64 b2.2.2] #[.bool (negS b1.1 b1.2.1), .slice fo lf cf, .int .i64 b1.2.2]) := iN.out.below hbk
           clear hl hn hbk)
        | (go_at_call 70; with_reducible (refine Calls.mono (Q1.out _ ?_) ?_); (with_reducible exact (iN.out.alloc _).hu); rintro e v1 ⟨o1, l1, c1, rfl, hl, hn, hbk⟩
           have E1 : Hid (l1 = _) := hl
           have N1 : Hid (NatV v1 (.slice o1 l1 c1) _) := hn
           have N0 : Hid (NatV v1 (.slice o0 l0 c0) _) := (N0.out.below ((Below.refl _ _).alloc (Nat.le_refl _) _) (Nat.le_refl _)).below hbk (Nat.le_refl _)
           have zf : Hid (Box0 u.heap.size v1 _) := (Box0.new iN.out.sz).below hbk
           have iN : Hid (ESt w u v1 (w.heap.size + 1 + 1) ga gb gc gd #[.bool a1.1, .slice ao la ca, .int .i64 a1.2.2, .bool a2.1, .slice bo lb cb, .int .i64 a2.2.2] #[.bool b1.1, .slice co lc cc, .int .i64 b1.2.2, .bool b2.1, .slice do_ ld cd, .int .i64 b2.2.2] #[.bool (negS b2.1 b2.2.1), .slice eo le ce, .int .i64 b2.2.2] #[.bool (negS b1.1 b1.2.1), .slice fo lf cf, .int .i64 b1.2.2]) := (iN.out.alloc _).below hbk
           clear hl hn hbk)
        | (go_at_call 62; with_reducible (refine Calls.mono (HAR.out _ o0 o1 l0 l1 c0 c1 E0.out E1.out N0.out N1.out) ?_); rintro e v2 ⟨rfl, hbk⟩
           try (have zf : Hid (Box0 u.heap.size v2 _) := zf.out.below hbk; obtain ⟨zc0, zc1, zc2, zc3⟩ := blk2 zf.out.1)
           have iN : Hid (ESt w u v2 (w.heap.size + 1 + 1) ga gb gc gd #[.bool a1.1, .slice ao la ca, .int .i64 a1.2.2, .bool a2.1, .slice bo lb cb, .int .i64 a2.2.2] #[.bool b1.1, .slice co lc cc, .int .i64 b1.2.2, .bool b2.1, .slice do_ ld cd, .int .i64 b2.2.2] #[.bool (negS b2.1 b2.2.1), .slice eo le ce, .int .i64 b2.2.2] #[.bool (negS b1.1 b1.2.1), .slice fo lf cf, .int .i64 b1.2.2]) := iN.out.below hbk
           clear hbk)
        | (go_at_call 62; with_reducible (refine Calls.mono (HAR.out _ o0 o1 l0 l1 c0 c1 E0.out E1.out (N0.out.below ((Below.refl _ v1).alloc (Nat.le_refl _) _) (Nat.le_refl _)) (N1.out.below ((Below.refl _ v1).alloc (Nat.le_refl _) _) (Nat.le_refl _))) ?_); rintro e v2 ⟨rfl, hbk⟩
           have zf : Hid (Box0 u.heap.size v2 _) := (Box0.new iN.out.sz).below hbk
           obtain ⟨zc0, zc1, zc2, zc3⟩ := blk2 zf.out.1
           have iN : Hid (ESt w u v2 (w.heap.size + 1 + 1) ga gb gc gd #[.bool a1.1, .slice ao la ca, .int .i64 a1.2.2, .bool a2.1, .slice bo lb cb, .int .i64 a2.2.2] #[.bool b1.1, .slice co lc cc, .int .i64 b1.2.2, .bool b2.1, .slice do_ ld cd, .int .i64 b2.2.2] #[.bool (negS b2.1 b2.2.1), .slice eo le ce, .int .i64 b2.2.2] #[.bool (negS b1.1 b1.2.1), .slice fo lf cf, .int .i64 b1.2.2]) := (iN.out.alloc _).below hbk
           clear hbk))
    all_goals (go_wp2_with fail; go_meet; refine ⟨_, rfl, rfl, ?_⟩)
    all_goals first | with_reducible exact iN.out.finSet zf.out _ _ | with_reducible exact iN.out.finNew _ _
  case rest =>
    obtain ⟨g, rfl, rfl, F⟩ := hcut
    have HF : Hid (Fin w wc (w.heap.size + 1 + 1) g (.int .u64 (r1 : Int)) (.int .u64 (r2 : Int))) := F
    obtain ⟨p0, p1, -, -⟩ := blk2 F.c
    clear F
    go_wp2_with fail
    refine Calls.mono (HNM.out _) ?_
    rintro ev w9 ⟨rfl, hb9⟩
    have HK : Hid (w9.heap[(w.heap.size + 1 + 1)]? = _) := blk_below HF.out.k2 hb9
    have HB : Hid (Below w.heap.size w w9) := HF.out.hb.trans (hb9.mono HF.out.hb.size)
    clear hb9 p0 p1
    obtain ⟨q0, q1, q2, q3⟩ := blk2 HK.out
    go_wp2_with fail
    obtain ⟨p0, p1, -, -⟩ := blk2 (blk_store2 (a := .int .u64 ((nameT (r1, r2, r3) ⟨#[115, 113, 114, 116]⟩).1 : Int)) (b := .int .u64 ((nameT (r1, r2, r3) ⟨#[115, 113, 114, 116]⟩).2.1 : Int)) HK.out)
    refine bodyPost_ret (v := .tuple #[.agg #[.int .u64 ((nameT (r1, r2, r3) ⟨#[115, 113, 114, 116]⟩).1 : Int), .int .u64 ((nameT (r1, r2, r3) ⟨#[115, 113, 114, 116]⟩).2.1 : Int)], .int .i64 ((nameT (r1, r2, r3) ⟨#[115, 113, 114, 116]⟩).2.2.1 : Int), .string (nameT (r1, r2, r3) ⟨#[115, 113, 114, 116]⟩).2.2.2]) (by simp [results, Tryz.results29, go_sem, p0, p1]) rfl ?_
    exact ⟨rfl, (HB.out.setCell (by exact HF.out.l2) _).setCell (by exact HF.out.l2) _⟩
end Go.Proofs.YtonhpkigoplmaaaGreatDoor
