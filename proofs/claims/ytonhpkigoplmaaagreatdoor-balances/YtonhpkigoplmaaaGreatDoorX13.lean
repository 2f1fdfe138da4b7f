/-
  SlvC, PieceS, PieceU, PieceV, SrchA, KeepC, SrchB, SrchC, PolyE, SrchD, SlvD, SrchE, SrchF, RootW, RootF, LoopB, PolyP, RtsN, SlvE, SlvF, SlvG, SlvH.
-/
import Derived.Test.YtonhpkigoplmaaaGreatDoorX12
import Derived.Test.YtonhpkigoplmaaaGreatDoorX10
import Derived.Test.YtonhpkigoplmaaaGreatDoorX11
import Derived.RangeFuncNested
import Derived.RangeFuncBound
import Derived.RangeFuncCalls
import Derived.RangeFuncLeaves
import Derived.Shelf.Abstract
import Derived.WalkKit
import Derived.OwnWalkIn
import Derived.TacticsInMore
import Derived.Deep.RegionHeld3
import Derived.Deep.LoopGhost
import Derived.WalkMore
namespace Go.Proofs.YtonhpkigoplmaaaGreatDoor
open Go.RowKit Go.Extern Ieee
attribute [local go_sem] run_store_float

theorem cornM {al ah bl_ bh : Nat} (i : Iv al ah) (j : Iv bl_ bh) : ∃ lo hi p q, FZ lo p ∧ FZ hi q ∧ p ≤ q ∧ wideX p q = muX (al, ah) (bl_, bh) ∧ ∀ w, Calls Tryz.prog 91 #[.func (.func 92) #[] #[], .agg #[.float .f64 al, .float .f64 ah], .agg #[.float .f64 bl_, .float .f64 bh]] w fun ev w' => ev = .returned (.tuple #[.float .f64 lo, .float .f64 hi]) ∧ Below w.heap.size w w' := by
  obtain ⟨d1, u1, e1, g1⟩ := prod_plain i.lt1 j.lt1 i.p1 j.p1
  obtain ⟨d2, u2, e2, g2⟩ := prod_plain i.lt1 j.lt2 i.p1 j.p2
  obtain ⟨d3, u3, e3, g3⟩ := prod_plain i.lt2 j.lt1 i.p2 j.p1
  obtain ⟨d4, u4, e4, g4⟩ := prod_plain i.lt2 j.lt2 i.p2 j.p2
  have f1 := e1.1.mn e2.1
  have f2 := f1.mn e3.1
  have f3 := f2.mn e4.1
  have k1 := e1.2.mx e2.2
  have k2 := k1.mx e3.2
  have k3 := k2.mx e4.2
  refine ⟨_, _, _, _, f3.fz, k3.fz, ?_, rfl, fun w => corners_mul al ah bl_ bh d1 u1 d2 u2 d3 u3 d4 u4 _ _ _ _ _ _ w (fun w ts t => run_min_float w ts t e1.1 e2.1) (fun w ts t => run_min_float w ts t f1 e3.1) (fun w ts t => run_min_float w ts t f2 e4.1) (fun w ts t => run_max_float w ts t e1.2 e2.2) (fun w ts t => run_max_float w ts t k1 e3.2) (fun w ts t => run_max_float w ts t k2 e4.2) g1 g2 g3 g4⟩
  have := posV_le (prodN (plT al) (plT bl_))
  omega

theorem cornD {al ah bl_ bh : Nat} (i : Iv al ah) (j : Iv bl_ bh) (hz : holdsT (plT bl_) (plT bh) = false) : ∃ lo hi p q, FZ lo p ∧ FZ hi q ∧ p ≤ q ∧ wideX p q = quX (al, ah) (bl_, bh) ∧ ∀ w, Calls Tryz.prog 91 #[.func (.func 94) #[] #[], .agg #[.float .f64 al, .float .f64 ah], .agg #[.float .f64 bl_, .float .f64 bh]] w fun ev w' => ev = .returned (.tuple #[.float .f64 lo, .float .f64 hi]) ∧ Below w.heap.size w w' := by
  obtain ⟨n1, n2⟩ := iv_ne j hz
  obtain ⟨d1, u1, e1, g1⟩ := quo_plain i.lt1 j.lt1 i.p1 j.p1 n1
  obtain ⟨d2, u2, e2, g2⟩ := quo_plain i.lt1 j.lt2 i.p1 j.p2 n2
  obtain ⟨d3, u3, e3, g3⟩ := quo_plain i.lt2 j.lt1 i.p2 j.p1 n1
  obtain ⟨d4, u4, e4, g4⟩ := quo_plain i.lt2 j.lt2 i.p2 j.p2 n2
  have f1 := e1.1.mn e2.1
  have f2 := f1.mn e3.1
  have f3 := f2.mn e4.1
  have k1 := e1.2.mx e2.2
  have k2 := k1.mx e3.2
  have k3 := k2.mx e4.2
  refine ⟨_, _, _, _, f3.fz, k3.fz, ?_, rfl, fun w => corners_quo al ah bl_ bh d1 u1 d2 u2 d3 u3 d4 u4 _ _ _ _ _ _ w (fun w ts t => run_min_float w ts t e1.1 e2.1) (fun w ts t => run_min_float w ts t f1 e3.1) (fun w ts t => run_min_float w ts t f2 e4.1) (fun w ts t => run_max_float w ts t e1.2 e2.2) (fun w ts t => run_max_float w ts t k1 e3.2) (fun w ts t => run_max_float w ts t k2 e4.2) g1 g2 g3 g4⟩
  have := posV_le (quoN (plT al) (plT bl_))
  omega

theorem diffS {al ah bl_ bh : Nat} (i : Iv al ah) (j : Iv bl_ bh) : ∃ lo hi p q, FZ lo p ∧ FZ hi q ∧ p ≤ q ∧ wideX p q = suX (al, ah) (bl_, bh) ∧ ∀ w, Calls Tryz.prog 90 #[.agg #[.float .f64 al, .float .f64 ah], .agg #[.float .f64 bl_, .float .f64 bh]] w fun ev w' => ev = .returned (.tuple #[.float .f64 lo, .float .f64 hi]) ∧ Below w.heap.size w w' := by
  obtain ⟨d1, u1, e1, g1⟩ := sum_plain i.lt1 (negW_lt j.lt2) i.z1 i.p1 (plain_neg j.lt2 j.p2)
  obtain ⟨d2, u2, e2, g2⟩ := sum_plain i.lt2 (negW_lt j.lt1) i.z2 i.p2 (plain_neg j.lt1 j.p1)
  exact ⟨d1, u2, _, _, e1.1.fz, e2.2.fz, su_le (a := (al, ah)) (b := (bl_, bh)) i j, rfl, fun w => diffsF_any al ah bl_ bh d1 u1 d2 u2 w g1 g2⟩

/-- The boxes of lessProduct: its first argument's, its result's. -/
structure LP (w W : World) (al ah : Nat) : Prop where
  k0 : W.heap[w.heap.size]? = some (.cells #[.float .f64 al, .float .f64 ah] 67 (0, 0))
  k3 : W.heap[w.heap.size + 1 + 1 + 1]? = some (.cells #[.float .f64 0, .float .f64 0] 67 (0, 0))
  hb : Below w.heap.size w W
theorem LP.below {w W W' : World} {al ah : Nat} (m : LP w W al ah) (hb : Below W.heap.size W W') : LP w W' al ah := ⟨blk_below m.k0 hb, blk_below m.k3 hb, m.hb.trans (hb.mono m.hb.size)⟩
theorem LP.alloc {w W : World} {al ah : Nat} (m : LP w W al ah) (o : Obj) : LP w (W.alloc o) al ah := m.below ((Below.refl _ _).alloc (Nat.le_refl _) o)

set_option maxHeartbeats 4000000 in
set_option maxRecDepth 100000 in
theorem lessProduct_walk (A : Nat → Addr) (al ah bl_ bh cl ch : Nat) (w : World) (r1 r2 : Option (Nat × Nat)) (lo hi : Nat) (hS : Sents A w)
    (hm : ∀ W, Calls Tryz.prog 91 #[.func (.func 92) #[] #[], .agg #[.float .f64 bl_, .float .f64 bh], .agg #[.float .f64 cl, .float .f64 ch]] W fun ev w' => ev = .returned (.tuple #[.float .f64 lo, .float .f64 hi]) ∧ Below W.heap.size W w')
    (hw : ∀ W, Sents A W → Calls Tryz.prog 159 #[.float .f64 lo, .float .f64 hi] W fun ev w' => SvR A W r1 ev w')
    (hd : ∀ tl th, r1 = some (tl, th) → ∃ l2 h2, (∀ W, Calls Tryz.prog 90 #[.agg #[.float .f64 al, .float .f64 ah], .agg #[.float .f64 tl, .float .f64 th]] W fun ev w' => ev = .returned (.tuple #[.float .f64 l2, .float .f64 h2]) ∧ Below W.heap.size W w') ∧ ∀ W, Sents A W → Calls Tryz.prog 159 #[.float .f64 l2, .float .f64 h2] W fun ev w' => SvR A W r2 ev w')
    (hr : r1 = none → r2 = none) :
    Calls Tryz.prog 158 #[.agg #[.float .f64 al, .float .f64 ah], .agg #[.float .f64 bl_, .float .f64 bh], .agg #[.float .f64 cl, .float .f64 ch]] w fun ev w' => SvR A w r2 ev w' := by
  have HM := hid' hm
  have HW : Hid (∀ W, Below w.heap.size w W → Calls Tryz.prog 159 #[.float .f64 lo, .float .f64 hi] W fun ev w' => SvR A W r1 ev w') := fun W hb => hw W (hS.below hb (Nat.le_refl _))
  have HD := hid' hd
  have HS := hid' hS
  have HR := hid' hr
  clear hm hw hd hS hr
  go_enter Tryz.func158, Tryz.ntmps158
  go_wp2_with fail
  have m : Hid (LP w ((((w.alloc (Obj.cells #[.float .f64 al, .float .f64 ah] 67)).alloc (Obj.cells #[.float .f64 bl_, .float .f64 bh] 67)).alloc (Obj.cells #[.float .f64 cl, .float .f64 ch] 67)).alloc (Obj.cells #[.float .f64 0, .float .f64 0] 67)) al ah) := by
    refine ⟨blk_old (blk_old (blk_old (blk_new w _) _) _) _, ?_, (((((Below.refl _ w).alloc (Nat.le_refl _) _).alloc (by simp) _).alloc (by simp; omega) _).alloc (by simp; omega) _)⟩
    have := blk_new (((w.alloc (Obj.cells #[.float .f64 al, .float .f64 ah] 67)).alloc (Obj.cells #[.float .f64 bl_, .float .f64 bh] 67)).alloc (Obj.cells #[.float .f64 cl, .float .f64 ch] 67)) (Obj.cells #[.float .f64 0, .float .f64 0] 67)
    simp only [World.size_alloc] at this
    exact this
  generalize ((((w.alloc (Obj.cells #[.float .f64 al, .float .f64 ah] 67)).alloc (Obj.cells #[.float .f64 bl_, .float .f64 bh] 67)).alloc (Obj.cells #[.float .f64 cl, .float .f64 ch] 67)).alloc (Obj.cells #[.float .f64 0, .float .f64 0] 67)) = W1 at *
  refine Calls.mono (HM.out _) ?_
  rintro e w1 ⟨rfl, hb1⟩
  have m := hid' (m.out.below hb1)
  clear hb1 HM
  go_wp2_with fail
  refine Calls.mono (HW.out _ m.out.hb) ?_
  rintro e w2 ⟨tl, th, v, rfl, hb2, hor⟩
  have m := hid' (m.out.below hb2)
  clear hb2 HW
  have l3 := lt_of_row m.out.k3
  rcases hor with ⟨e1, rfl⟩ | ⟨e1, rfl⟩
  · obtain ⟨l2, h2, d1, d2⟩ := HD.out tl th e1
    have HD1 := hid' d1
    have HD2 : Hid (∀ W, Below w.heap.size w W → Calls Tryz.prog 159 #[.float .f64 l2, .float .f64 h2] W fun ev w' => SvR A W r2 ev w') := fun W hb => d2 W (HS.out.below hb (Nat.le_refl _))
    clear HD HR HS d1 d2 e1
    obtain ⟨a0, a1, -, -⟩ := blk2 m.out.k0
    have l0 := lt_of_row m.out.k0
    go_wp2_with fail
    have m := hid' (m.out.alloc (Obj.cells #[.float .f64 tl, .float .f64 th] 67))
    clear a0 a1 l3 l0
    generalize (w2.alloc (Obj.cells #[.float .f64 tl, .float .f64 th] 67)) = W3 at *
    refine Calls.mono (HD1.out _) ?_
    rintro e w3 ⟨rfl, hb3⟩
    have m := hid' (m.out.below hb3)
    clear hb3 HD1
    go_wp2_with fail
    refine Calls.mono (HD2.out _ m.out.hb) ?_
    rintro e w4 ⟨ul, uh, v, rfl, hb4, hor⟩
    have m := hid' (m.out.below hb4)
    clear hb4 HD2
    have HO := hid' hor
    clear hor
    obtain ⟨k0, k1, k2, k3⟩ := blk2 m.out.k3
    have HB : Hid (Below w.heap.size w ((w4.setCell ⟨w.heap.size + 1 + 1 + 1, 0, none⟩ (.float .f64 ul)).setCell ⟨w.heap.size + 1 + 1 + 1, 1, none⟩ (.float .f64 uh))) := (m.out.hb.setCell (by show w.heap.size ≤ w.heap.size + 1 + 1 + 1; omega) _).setCell (by show w.heap.size ≤ w.heap.size + 1 + 1 + 1; omega) _
    have K := hid' (blk_store2 m.out.k3 (a := .float .f64 ul) (b := .float .f64 uh))
    go_wp2_with fail
    clear k0 k1 k2 k3
    obtain ⟨k0, k1, k2, k3⟩ := blk2 K.out
    generalize ((w4.setCell ⟨w.heap.size + 1 + 1 + 1, 0, none⟩ (.float .f64 ul)).setCell ⟨w.heap.size + 1 + 1 + 1, 1, none⟩ (.float .f64 uh)) = W4 at *
    refine bodyPost_ret (v := .tuple #[.agg #[.float .f64 ul, .float .f64 uh], v]) (by simp [results, Tryz.results158, go_sem, k0, k1]) rfl ?_
    exact ⟨ul, uh, _, rfl, HB.out, HO.out⟩
  · have hn := HR.out e1
    have HN := hid' hn
    clear HD HR HS e1 hn
    obtain ⟨k0, k1, k2, k3⟩ := blk2 m.out.k3
    have HB : Hid (Below w.heap.size w (((w2.setCell ⟨w.heap.size + 1 + 1 + 1, 0, none⟩ (.float .f64 0)).setCell ⟨w.heap.size + 1 + 1 + 1, 1, none⟩ (.float .f64 0)).alloc (Obj.cells #[.float .f64 tl, .float .f64 th] 67))) := ((m.out.hb.setCell (by show w.heap.size ≤ w.heap.size + 1 + 1 + 1; omega) _).setCell (by show w.heap.size ≤ w.heap.size + 1 + 1 + 1; omega) _).alloc (by simp only [World.size_setCell]; omega) _
    have K := hid' (blk_old (blk_store2 m.out.k3 (a := .float .f64 0) (b := .float .f64 0)) (Obj.cells #[.float .f64 tl, .float .f64 th] 67))
    go_wp2_with fail
    clear k0 k1 k2 k3
    obtain ⟨k0, k1, k2, k3⟩ := blk2 K.out
    generalize (((w2.setCell ⟨w.heap.size + 1 + 1 + 1, 0, none⟩ (.float .f64 0)).setCell ⟨w.heap.size + 1 + 1 + 1, 1, none⟩ (.float .f64 0)).alloc (Obj.cells #[.float .f64 tl, .float .f64 th] 67)) = W4 at *
    refine bodyPost_ret (v := .tuple #[.agg #[.float .f64 0, .float .f64 0], .iface 229 (.pointer (some (A 8)))]) (by simp [results, Tryz.results158, go_sem, k0, k1]) rfl ?_
    exact ⟨0, 0, _, rfl, HB.out, .inr ⟨HN.out, rfl⟩⟩

theorem lessProduct_any (A : Nat → Addr) {al ah bl_ bh cl ch : Nat} (w : World) (hS : Sents A w) (i : Iv al ah) (j : Iv bl_ bh) (k : Iv cl ch) :
    Calls Tryz.prog 158 #[.agg #[.float .f64 al, .float .f64 ah], .agg #[.float .f64 bl_, .float .f64 bh], .agg #[.float .f64 cl, .float .f64 ch]] w fun ev w' => SvR A w (lpX muX suX (al, ah) (bl_, bh) (cl, ch)) ev w' := by
  obtain ⟨lo, hi, p, q, f1, f2, hle, hw, hc⟩ := cornM j k
  refine lessProduct_walk A al ah bl_ bh cl ch w (muX (bl_, bh) (cl, ch)) _ lo hi hS hc (fun W hS => ?_) (fun tl th he => ?_) (fun h => by unfold lpX; rw [h]; rfl)
  · rw [← hw]; exact widened_any A lo hi p q W hS f1 f2 hle
  · have it : Iv tl th := mu_iv he
    obtain ⟨l2, h2, p2, q2, g1, g2, hle2, hw2, hc2⟩ := diffS i it
    refine ⟨l2, h2, hc2, fun W hS => ?_⟩
    have : lpX muX suX (al, ah) (bl_, bh) (cl, ch) = wideX p2 q2 := by unfold lpX; rw [he, hw2]; rfl
    rw [this]
    exact widened_any A l2 h2 p2 q2 W hS g1 g2 hle2
end Go.Proofs.YtonhpkigoplmaaaGreatDoor
namespace Go.Proofs.YtonhpkigoplmaaaGreatDoor
open Go.RowKit

end Go.Proofs.YtonhpkigoplmaaaGreatDoor
namespace Go.Proofs.YtonhpkigoplmaaaGreatDoor
open Go.RowKit Go.Extern Ieee

end Go.Proofs.YtonhpkigoplmaaaGreatDoor
namespace Go.Proofs.YtonhpkigoplmaaaGreatDoor
open Go.RowKit


end Go.Proofs.YtonhpkigoplmaaaGreatDoor
namespace Go.Proofs.YtonhpkigoplmaaaGreatDoor
open Go.RowKit
attribute [local go_sem] run_store_float

end Go.Proofs.YtonhpkigoplmaaaGreatDoor
namespace Go.Proofs.YtonhpkigoplmaaaGreatDoor
open Go.RowKit

end Go.Proofs.YtonhpkigoplmaaaGreatDoor
namespace Go.Proofs.YtonhpkigoplmaaaGreatDoor
open Go.RowKit
attribute [local go_sem] run_store_float

end Go.Proofs.YtonhpkigoplmaaaGreatDoor
namespace Go.Proofs.YtonhpkigoplmaaaGreatDoor
open Go.RowKit Go.Shelf
attribute [local go_sem] run_store_float
attribute [local go_sem] Oper.semAt_some

end Go.Proofs.YtonhpkigoplmaaaGreatDoor
namespace Go.Proofs.YtonhpkigoplmaaaGreatDoor
open Go.RowKit Go.Extern
attribute [local go_sem] run_store_float

end Go.Proofs.YtonhpkigoplmaaaGreatDoor
namespace Go.Proofs.YtonhpkigoplmaaaGreatDoor
open Go.RowKit Go.Extern Ieee

theorem holdsF_any {l h : Nat} (j : Iv l h) (W : World) : Calls Tryz.prog 93 #[.agg #[.float .f64 l, .float .f64 h]] W fun e w' => e = .returned (.bool (holdsT (plT l) (plT h))) ∧ Below W.heap.size W w' := by
  obtain ⟨o1, ho1, hl1, hg1⟩ := sgn_order j
  obtain ⟨o2, ho2, hl2, hg2⟩ := sgn_order j.high
  have hh : (o1 != .gt && o2 != .lt) = holdsT (plT l) (plT h) := by
    have x1 : (o1 != .gt) = decide (sgnI (plT l).1 (plT l).2.1 ≤ 0) := by
      by_cases h : 0 < sgnI (plT l).1 (plT l).2.1
      · rw [hg1.2 h, decide_eq_false (by omega)]; rfl
      · rw [decide_eq_true (show sgnI (plT l).1 (plT l).2.1 ≤ 0 by omega)]
        cases o1 with
        | lt => rfl
        | eq => rfl
        | gt => exact absurd (hg1.1 rfl) h
    have x2 : (o2 != .lt) = decide (0 ≤ sgnI (plT h).1 (plT h).2.1) := by
      by_cases hc : sgnI (plT h).1 (plT h).2.1 < 0
      · rw [hl2.2 hc, decide_eq_false (by omega)]; rfl
      · rw [decide_eq_true (show 0 ≤ sgnI (plT h).1 (plT h).2.1 by omega)]
        cases o2 with
        | lt => exact absurd (hl2.1 rfl) hc
        | eq => rfl
        | gt => rfl
    rw [x1, x2]
    unfold holdsT
    rfl
  have := holds_any l h o1 o2 W ho1 ho2
  rwa [hh] at this

end Go.Proofs.YtonhpkigoplmaaaGreatDoor
namespace Go.Proofs.YtonhpkigoplmaaaGreatDoor
open Go.RowKit Go.Extern Ieee
attribute [local go_sem] run_store_float

set_option maxHeartbeats 2000000 in
set_option maxRecDepth 100000 in
theorem greatest_any {al ah : Nat} (i : Iv al ah) (w : World) : Calls Tryz.prog 178 #[.agg #[.float .f64 al, .float .f64 ah]] w fun e w' => e = .returned (.float .f64 (gtW (al, ah))) ∧ Below w.heap.size w w' := by
  have H1 : Hid (∀ W, Calls Tryz.prog 160 #[.float .f64 al] W fun e w' => e = .returned (.float .f64 (absW al)) ∧ w' = W) := fun W => abs_any al W i.lt1
  have H2 : Hid (∀ W, Calls Tryz.prog 160 #[.float .f64 ah] W fun e w' => e = .returned (.float .f64 (absW ah)) ∧ w' = W) := fun W => abs_any ah W i.lt2
  have mx : ∀ (w : World) (ts : Array TypeId) (t : TypeId), (Builtin.max_ ts t #[.float .f64 (absW al), .float .f64 (absW ah)]).run Tryz.prog w = .ok (.float .f64 (gtW (al, ah))) w := fun w ts t => run_max_float w ts t (abs_plain i.lt1 i.p1).1.nn.fr (abs_plain i.lt2 i.p2).1.nn.fr
  clear i
  generalize absW al = x at *
  generalize absW ah = y at *
  generalize gtW (al, ah) = z at *
  go_enter Tryz.func178, Tryz.ntmps178
  go_wp2_with fail
  have hB : Below w.heap.size w (w.alloc (Obj.cells #[.float .f64 al, .float .f64 ah] 67)) := (Below.refl _ _).alloc (Nat.le_refl _) _
  have K := blk_new w (Obj.cells #[.float .f64 al, .float .f64 ah] 67)
  generalize (w.alloc (Obj.cells #[.float .f64 al, .float .f64 ah] 67)) = W1 at *
  obtain ⟨k0, k1, -, -⟩ := blk2 K
  go_region_with (first
    | (go_at_call 160; with_reducible (refine Calls.mono (H1.out _) ?_); rintro e w' ⟨rfl, rfl⟩)
    | (go_at_call 160; with_reducible (refine Calls.mono (H2.out _) ?_); rintro e w' ⟨rfl, rfl⟩))
  all_goals (go_wp2; go_ret; exact ⟨rfl, hB.drew⟩)

set_option maxHeartbeats 2000000 in
set_option maxRecDepth 100000 in
theorem least_any {al ah : Nat} (i : Iv al ah) (w : World) : Calls Tryz.prog 177 #[.agg #[.float .f64 al, .float .f64 ah]] w fun e w' => e = .returned (.float .f64 (lsW (al, ah))) ∧ Below w.heap.size w w' := by
  have H0 : Hid (∀ W, Calls Tryz.prog 93 #[.agg #[.float .f64 al, .float .f64 ah]] W fun e w' => e = .returned (.bool (holdsT (plT al) (plT ah))) ∧ Below W.heap.size W w') := fun W => holdsF_any i W
  have H1 : Hid (∀ W, Calls Tryz.prog 160 #[.float .f64 al] W fun e w' => e = .returned (.float .f64 (absW al)) ∧ w' = W) := fun W => abs_any al W i.lt1
  have H2 : Hid (∀ W, Calls Tryz.prog 160 #[.float .f64 ah] W fun e w' => e = .returned (.float .f64 (absW ah)) ∧ w' = W) := fun W => abs_any ah W i.lt2
  have mn : ∀ (w : World) (ts : Array TypeId) (t : TypeId), (Builtin.min_ ts t #[.float .f64 (absW al), .float .f64 (absW ah)]).run Tryz.prog w = .ok (.float .f64 (fmin (absW al) (absW ah))) w := fun w ts t => run_min_float w ts t (abs_plain i.lt1 i.p1).1.nn.fr (abs_plain i.lt2 i.p2).1.nn.fr
  have hz : Hid (lsW (al, ah) = if holdsT (plT al) (plT ah) = true then 0 else fmin (absW al) (absW ah)) := rfl
  clear i
  generalize holdsT (plT al) (plT ah) = b at *
  generalize absW al = x at *
  generalize absW ah = y at *
  generalize fmin x y = z at *
  generalize lsW (al, ah) = r at *
  go_enter Tryz.func177, Tryz.ntmps177
  go_wp2_with fail
  have hB : Below w.heap.size w (w.alloc (Obj.cells #[.float .f64 al, .float .f64 ah] 67)) := (Below.refl _ _).alloc (Nat.le_refl _) _
  have K := blk_new w (Obj.cells #[.float .f64 al, .float .f64 ah] 67)
  generalize (w.alloc (Obj.cells #[.float .f64 al, .float .f64 ah] 67)) = W1 at *
  refine Calls.mono (H0.out _) ?_
  rintro e w1 ⟨rfl, hb1⟩
  have hB : Below w.heap.size w w1 := hB.trans (hb1.mono hB.size)
  have K := blk_below K hb1
  clear hb1 H0
  cases b
  · have e : Hid (r = z) := by show r = z; rw [hz.out, if_neg Bool.false_ne_true]
    obtain ⟨k0, k1, -, -⟩ := blk2 K
    clear K hz
    go_wp2_with fail
    go_region_with (first
      | (go_at_call 160; with_reducible (refine Calls.mono (H1.out _) ?_); rintro e w' ⟨rfl, rfl⟩)
      | (go_at_call 160; with_reducible (refine Calls.mono (H2.out _) ?_); rintro e w' ⟨rfl, rfl⟩))
    all_goals (go_wp2; go_ret; rw [e.out]; exact ⟨rfl, hB.drew⟩)
  · have e : Hid (r = 0) := by show r = 0; rw [hz.out, if_pos rfl]
    clear K hz
    go_wp2
    go_ret
    rw [e.out]
    exact ⟨rfl, hB⟩
end Go.Proofs.YtonhpkigoplmaaaGreatDoor
namespace Go.Proofs.YtonhpkigoplmaaaGreatDoor
open Go.RowKit Go.Shelf


end Go.Proofs.YtonhpkigoplmaaaGreatDoor
namespace Go.Proofs.YtonhpkigoplmaaaGreatDoor
open Go.RowKit Go.Shelf
attribute [local go_sem] run_store_float

end Go.Proofs.YtonhpkigoplmaaaGreatDoor
namespace Go.Proofs.YtonhpkigoplmaaaGreatDoor
open Go.RowKit Go.Extern

theorem equalIn_nil {P : Program} (w : World) (d : Nat) (t e : TypeId) (a : Option Addr) (l c : Nat) (h : P.underlying t = some (.slice e)) : (Op.equalIn (d + 1) t (.slice a l c) (.slice none 0 0)).run P w = .ok a.isNone w := by
  cases a <;> simp [Op.equalIn, run_underlying h]
theorem equal_nil {P : Program} (w : World) (t e : TypeId) (a : Option Addr) (l c : Nat) (h : P.underlying t = some (.slice e)) : (Op.equal t (.slice a l c) (.slice none 0 0)).run P w = .ok a.isNone w := equalIn_nil w 9999 t e a l c h
theorem slice_nil {P : Program} (w : World) (t e : TypeId) (a : Option Addr) (l c : Nat) (h : P.underlying t = some (.slice e)) : (binOp .eql t (.slice a l c) (.slice none 0 0)).run P w = .ok (.bool a.isNone) w := by
  simp [binOp, equal_nil w t e a l c h]

end Go.Proofs.YtonhpkigoplmaaaGreatDoor
namespace Go.Proofs.YtonhpkigoplmaaaGreatDoor
open Go.RowKit Go.Shelf
attribute [local go_sem] run_store_float


end Go.Proofs.YtonhpkigoplmaaaGreatDoor
namespace Go.Proofs.YtonhpkigoplmaaaGreatDoor
open Go.RowKit Go.Shelf

end Go.Proofs.YtonhpkigoplmaaaGreatDoor
namespace Go.Proofs.YtonhpkigoplmaaaGreatDoor
open Go.RowKit Go.Extern Ieee
attribute [local go_sem] run_store_float

end Go.Proofs.YtonhpkigoplmaaaGreatDoor
namespace Go.Proofs.YtonhpkigoplmaaaGreatDoor
open Go.RowKit Go.Shelf
attribute [local go_sem] run_store_float

theorem grown_set (W : World) (g i : Nat) (v : Value) : W.grownBy (W.setCell ⟨g, i, none⟩ v) (some g) :=
  ⟨rfl, rfl, rfl, (KeepsWalks.setCell W _ v).size, fun k _ hk => Below.heap_setCell _ _ _ k (fun e => hk (by rw [e]))⟩
theorem grown_trans {A B C : World} {g : Option Nat} (h : A.grownBy B g) (k : B.grownBy C g) : A.grownBy C g :=
  ⟨k.os.trans h.os, k.tape.trans h.tape, k.output.trans h.output, Nat.le_trans h.size k.size, fun i hi hg => (k.block i (Nat.lt_of_lt_of_le hi h.size) hg).trans (h.block i hi hg)⟩
end Go.Proofs.YtonhpkigoplmaaaGreatDoor
namespace Go.Proofs.YtonhpkigoplmaaaGreatDoor
open Go.RowKit Go.Extern Ieee
attribute [local go_sem] run_store_float

/-- A row of m intervals in a block of its own. -/
def RowI (W : World) (g m : Nat) (r : Nat → Nat × Nat) : Prop := ∃ cur, W.heap[g]? = some (.cells cur 67 (0, 0)) ∧ m * 2 ≤ cur.size ∧ ∀ j, j < m → cur[j * 2]? = some (.float .f64 (r j).1) ∧ cur[j * 2 + 1]? = some (.float .f64 (r j).2)

theorem RowI.lt {W : World} {g m : Nat} {r : Nat → Nat × Nat} (h : RowI W g m r) : g < W.heap.size := by
  obtain ⟨cur, h1, _⟩ := h
  exact lt_of_row h1
theorem RowI.cell {W : World} {g m : Nat} {r : Nat → Nat × Nat} (h : RowI W g m r) {j : Nat} (hj : j < m) : W.cell? ⟨g, j * 2, none⟩ = some (.float .f64 (r j).1) ∧ W.cell? ⟨g, j * 2 + 1, none⟩ = some (.float .f64 (r j).2) ∧ W.frozen? ⟨g, j * 2, none⟩ = false ∧ W.frozen? ⟨g, j * 2 + 1, none⟩ = false := by
  obtain ⟨cur, h1, h2, h3⟩ := h
  obtain ⟨a, b⟩ := h3 j hj
  refine ⟨by rw [cell_of_cur h1]; exact a, by rw [cell_of_cur h1]; exact b, ?_, ?_⟩ <;> simp [World.frozen?, h1]
theorem RowI.below {W W' : World} {g m : Nat} {r : Nat → Nat × Nat} (h : RowI W g m r) (hb : Below W.heap.size W W') : RowI W' g m r := by
  obtain ⟨cur, h1, h2⟩ := h
  exact ⟨cur, blk_below h1 hb, h2⟩
theorem RowI.grown {W W' : World} {g g' m : Nat} {r : Nat → Nat × Nat} (h : RowI W g m r) (hg : W.grownBy W' (some g')) (hne : g ≠ g') : RowI W' g m r := by
  obtain ⟨cur, h1, h2⟩ := h
  exact ⟨cur, (hg.block g (lt_of_row h1) (fun e => hne (by cases e; rfl))).trans h1, h2⟩
theorem blk_set_cur {W : World} {g : Nat} {cur : Array Value} {t : TypeId} (h : W.heap[g]? = some (.cells cur t (0, 0))) (i : Nat) (v : Value) : (W.setCell ⟨g, i, none⟩ v).heap[g]? = some (.cells (cur.setIfInBounds i v) t (0, 0)) := by
  obtain ⟨hlt, hk⟩ := Array.getElem?_eq_some_iff.1 h
  show (W.heap.modify g _)[g]? = _
  rw [Array.getElem?_eq_getElem (by rw [Array.size_modify]; exact hlt), Array.getElem_modify_self, hk]
  rfl
theorem RowI.set {W : World} {g m : Nat} {r : Nat → Nat × Nat} (h : RowI W g m r) {j : Nat} (hj : j < m) (a b : Nat) : RowI ((W.setCell ⟨g, j * 2, none⟩ (.float .f64 a)).setCell ⟨g, j * 2 + 1, none⟩ (.float .f64 b)) g m (upd r j (a, b)) := by
  obtain ⟨cur, h1, h2, h3⟩ := h
  refine ⟨(cur.setIfInBounds (j * 2) (.float .f64 a)).setIfInBounds (j * 2 + 1) (.float .f64 b), blk_set_cur (blk_set_cur h1 _ _) _ _, by simpa using h2, fun i hi => ?_⟩
  · obtain ⟨x, y⟩ := h3 i hi
    by_cases hij : i = j
    · subst hij
      rw [upd_same]
      constructor
      · rw [Array.getElem?_setIfInBounds_ne (by omega), Array.getElem?_setIfInBounds_self_of_lt (by omega)]
      · rw [Array.getElem?_setIfInBounds_self_of_lt (by simp; omega)]
    · rw [upd_ne hij]
      constructor
      · rw [Array.getElem?_setIfInBounds_ne (by omega), Array.getElem?_setIfInBounds_ne (by omega)]; exact x
      · rw [Array.getElem?_setIfInBounds_ne (by omega), Array.getElem?_setIfInBounds_ne (by omega)]; exact y

theorem grown_of_below {w W W' : World} {g : Nat} (h : w.grownBy W (some g)) (hb : Below W.heap.size W W') : w.grownBy W' (some g) :=
  ⟨hb.os.trans h.os, hb.tape.trans h.tape, hb.output.trans h.output, Nat.le_trans h.size hb.size, fun k hk hn => (hb.block k (Nat.lt_of_lt_of_le hk h.size)).trans (h.block k hk hn)⟩

/-- A box of an interval. -/
def IBx (W : World) (g : Nat) (a b : Nat) : Prop := W.heap[g]? = some (.cells #[.float .f64 a, .float .f64 b] 67 (0, 0))

/-- A world behind another one; a box of an interval that was made since. -/
structure BTt (R W : World) : Prop where
  hb : Below R.heap.size R W
theorem BTt.below {R W W' : World} (m : BTt R W) (hb : Below W.heap.size W W') : BTt R W' := ⟨m.hb.trans (hb.mono m.hb.size)⟩
theorem BTt.alloc {R W : World} (m : BTt R W) (o : Obj) : BTt R (W.alloc o) := ⟨m.hb.alloc m.hb.size o⟩
theorem BTt.drew {R W : World} (m : BTt R W) : BTt R W.drew := ⟨m.hb.drew⟩
def QI (R W : World) (g : Nat) (x y : Nat) : Prop := IBx W g x y ∧ R.heap.size ≤ g
theorem QI.below {R W W' : World} {g x y : Nat} (h : QI R W g x y) (hb : Below W.heap.size W W') : QI R W' g x y := ⟨blk_below h.1 hb, h.2⟩
theorem QI.drew {R W : World} {g x y : Nat} (h : QI R W g x y) : QI R W.drew g x y := h
theorem QI.new {R W : World} {x y : Nat} (m : BTt R W) : QI R (W.alloc (Obj.cells #[.float .f64 x, .float .f64 y] 67)) W.heap.size x y := ⟨blk_new W _, m.hb.size⟩
theorem QI.same {R W : World} {g x y : Nat} (h : QI R W g x y) (u v : Nat) : QI R ((W.setCell ⟨g, 0, none⟩ (.float .f64 u)).setCell ⟨g, 1, none⟩ (.float .f64 v)) g u v := ⟨blk_store2 h.1, h.2⟩
theorem BTt.set2 {R W : World} {g x y : Nat} (m : BTt R W) (z : QI R W g x y) (u v : Nat) : BTt R ((W.setCell ⟨g, 0, none⟩ (.float .f64 u)).setCell ⟨g, 1, none⟩ (.float .f64 v)) := ⟨(m.hb.setCell (by exact z.2) _).setCell (by exact z.2) _⟩
theorem BTt.cell {R W : World} (m : BTt R W) {b o : Nat} {v : Value} (h : R.cell? ⟨b, o, none⟩ = some v) : W.cell? ⟨b, o, none⟩ = some v := by
  rw [m.hb.cell (by exact lt_of_cell h)]; exact h
theorem BTt.cell4 {R W : World} (m : BTt R W) {b o b' o' b2 o2 b3 o3 : Nat} {v v' v2 v3 : Value} (h : R.cell? ⟨b, o, none⟩ = some v ∧ R.cell? ⟨b', o', none⟩ = some v' ∧ R.cell? ⟨b2, o2, none⟩ = some v2 ∧ R.cell? ⟨b3, o3, none⟩ = some v3) : W.cell? ⟨b, o, none⟩ = some v ∧ W.cell? ⟨b', o', none⟩ = some v' ∧ W.cell? ⟨b2, o2, none⟩ = some v2 ∧ W.cell? ⟨b3, o3, none⟩ = some v3 := ⟨m.cell h.1, m.cell h.2.1, m.cell h.2.2.1, m.cell h.2.2.2⟩

/-- Where takeFrom stands: the row that changes, the one that is taken from it. -/
structure TkS (w0 w W : World) (g1 g2 m : Nat) (r br : Nat → Nat × Nat) : Prop where
  hg : w.grownBy W (some g1)
  r1 : RowI W g1 m r
  r2 : RowI W g2 m br
  hb : Below w0.heap.size w0 W
  ne : g1 ≠ g2
  ge : w0.heap.size ≤ g1
theorem TkS.below {w0 w W W' : World} {g1 g2 m : Nat} {r br : Nat → Nat × Nat} (s : TkS w0 w W g1 g2 m r br) (hb : Below W.heap.size W W') : TkS w0 w W' g1 g2 m r br :=
  ⟨grown_of_below s.hg hb, s.r1.below hb, s.r2.below hb, s.hb.trans (hb.mono s.hb.size), s.ne, s.ge⟩
theorem TkS.set {w0 w W : World} {g1 g2 m : Nat} {r br : Nat → Nat × Nat} (s : TkS w0 w W g1 g2 m r br) {j : Nat} (hj : j < m) (a b : Nat) : TkS w0 w ((W.setCell ⟨g1, j * 2, none⟩ (.float .f64 a)).setCell ⟨g1, j * 2 + 1, none⟩ (.float .f64 b)) g1 g2 m (upd r j (a, b)) br :=
  have h := grown_trans (grown_set W g1 (j * 2) (.float .f64 a)) (grown_set _ g1 (j * 2 + 1) (.float .f64 b))
  ⟨grown_trans s.hg h, s.r1.set hj a b, s.r2.grown h (fun e => s.ne e.symm), (s.hb.setCell (by exact s.ge) _).setCell (by exact s.ge) _, s.ne, s.ge⟩
end Go.Proofs.YtonhpkigoplmaaaGreatDoor
namespace Go.Proofs.YtonhpkigoplmaaaGreatDoor
open Go.RowKit Go.Extern Ieee
attribute [local go_sem] run_store_float

theorem lp_iv {a b c d : Nat × Nat} (h : lpX muX suX a b c = some d) (ha : ivW a) : ivW d := by
  unfold lpX at h
  obtain ⟨t, h1, h2⟩ := Option.bind_eq_some_iff.1 h
  exact su_iv ha (mu_iv h1) h2

set_option maxHeartbeats 8000000 in
set_option maxRecDepth 100000 in
theorem takeFrom_walk (A : Nat → Addr) (g1 g2 m c1 c2 k : Nat) (row br : Nat → Nat × Nat) (w0 w : World) (lo hi : Nat) (rq : Option (Nat × Nat)) (RES : Option (Nat → Nat × Nat))
    (s : TkS w0 w w g1 g2 m row br) (hkm : k < m) (hm : m ≤ 100) (xl xh yl yh : Nat) (ex : row k = (xl, xh)) (ey : br k = (yl, yh))
    (hc : ∀ W, Calls Tryz.prog 91 #[.func (.func 94) #[] #[], .agg #[.float .f64 xl, .float .f64 xh], .agg #[.float .f64 yl, .float .f64 yh]] W fun ev w' => ev = .returned (.tuple #[.float .f64 lo, .float .f64 hi]) ∧ Below W.heap.size W w')
    (hw : ∀ W, Below w0.heap.size w0 W → Calls Tryz.prog 159 #[.float .f64 lo, .float .f64 hi] W fun ev w' => SvR A W rq ev w')
    (hl : ∀ W al ah bl_ bh cl ch, Below w0.heap.size w0 W → Iv al ah → Iv bl_ bh → Iv cl ch → Calls Tryz.prog 158 #[.agg #[.float .f64 al, .float .f64 ah], .agg #[.float .f64 bl_, .float .f64 bh], .agg #[.float .f64 cl, .float .f64 ch]] W fun ev w' => SvR A W (lpX muX suX (al, ah) (bl_, bh) (cl, ch)) ev w')
    (hR0 : rq = none → RES = none) (hR1 : ∀ t, rq = some t → ivW t ∧ RES = takeJ muX suX t br (m - (k + 1)) (k + 1) row) (i1 : ∀ j, k ≤ j → j < m → ivW (row j)) (i2 : ∀ j, k ≤ j → j < m → ivW (br j)) :
    Calls Tryz.prog 157 #[.slice (some ⟨g1, 0, none⟩) m c1, .slice (some ⟨g2, 0, none⟩) m c2, .int .i64 (k : Int)] w fun e w' => ∃ r', TkS w0 w w' g1 g2 m r' br ∧ (RES = some r' ∧ e = .returned .nilIface ∧ (∀ j, k ≤ j → j < m → ivW (r' j)) ∨ RES = none ∧ e = .returned (.iface 229 (.pointer (some (A 8))))) := by
  have HC := hid' hc
  have HW := hid' hw
  have HL := hid' hl
  have HR0 := hid' hR0
  have HR1 := hid' hR1
  have I1 := hid' i1
  have I2 := hid' i2
  have SS := hid' s
  have hg1l := s.r1.lt
  obtain ⟨a1, a2, -, -⟩ := s.r1.cell hkm
  obtain ⟨b1, b2, -, -⟩ := s.r2.cell hkm
  rw [ex] at a1 a2
  rw [ey] at b1 b2
  clear hc hw hl hR0 hR1 i1 i2 s ex ey
  have hq : w.cell? ⟨g1, k * 2, none⟩ = some (.float .f64 xl) ∧ w.cell? ⟨g1, k * 2 + 1, none⟩ = some (.float .f64 xh) ∧ w.cell? ⟨g2, k * 2, none⟩ = some (.float .f64 yl) ∧ w.cell? ⟨g2, k * 2 + 1, none⟩ = some (.float .f64 yh) := ⟨a1, a2, b1, b2⟩
  go_enter Tryz.func157, Tryz.ntmps157
  go_wp2_with fail
  go_cut [7, 8] (fun s7 s8 wc => ∃ gt tl th, s7 = .pointer (some ⟨gt, 0, none⟩) ∧ BTt w wc ∧ QI w wc gt tl th ∧ (rq = some (tl, th) ∧ s8 = .nilIface ∨ rq = none ∧ s8 = .iface 229 (.pointer (some (A 8)))))
  case first =>
    have m1 : Hid (BTt w w) := ⟨Below.refl _ _⟩
    have iN : Hid (BTt w w.drew) := m1.out.drew
    go_region_held3 (fun W => W.cell? ⟨g1, k * 2, none⟩ = some (.float .f64 xl) ∧ W.cell? ⟨g1, k * 2 + 1, none⟩ = some (.float .f64 xh) ∧ W.cell? ⟨g2, k * 2, none⟩ = some (.float .f64 yl) ∧ W.cell? ⟨g2, k * 2 + 1, none⟩ = some (.float .f64 yh)) (first | with_reducible exact iN.out.cell4 hq | with_reducible exact (iN.out.alloc _).cell4 hq | with_reducible exact (m1.out.alloc _).drew.cell4 hq | with_reducible exact (iN.out.set2 zf.out _ _).cell4 hq)
      (first
        | (go_at_call 91; with_reducible (refine Calls.mono (HC.out _) ?_); rintro e v0 ⟨rfl, hbk⟩
           try (have zf : Hid (QI w v0 _ _ _) := zf.out.below hbk)
           have iN : Hid (BTt w v0) := iN.out.below hbk
           clear hbk)
        | (go_at_call 91; with_reducible (refine Calls.mono (HC.out _) ?_); rintro e v0 ⟨rfl, hbk⟩
           have zf : Hid (QI w v0 _ _ _) := (QI.new m1.out).drew.below hbk
           have iN : Hid (BTt w v0) := (m1.out.alloc _).drew.below hbk
           clear hbk)
        | (go_at_call 159; with_reducible (refine Calls.mono (HW.out _ ?_) ?_); (with_reducible exact SS.out.hb.trans (iN.out.hb.mono SS.out.hb.size)); (intro e v1 hsv); (unfold SvR at hsv); (obtain ⟨tl, th, v, rfl, hbk, hor⟩ := hsv)
           have HO := hid' hor
           try (have zf : Hid (QI w v1 _ _ _) := zf.out.below hbk; obtain ⟨zc0, zc1, zc2, zc3⟩ := blk2 zf.out.1)
           have iN : Hid (BTt w v1) := iN.out.below hbk
           clear hbk hor)
        | (go_at_call 159; with_reducible (refine Calls.mono (HW.out _ ?_) ?_); (with_reducible exact SS.out.hb.trans ((iN.out.alloc _).hb.mono SS.out.hb.size)); (intro e v1 hsv); (unfold SvR at hsv); (obtain ⟨tl, th, v, rfl, hbk, hor⟩ := hsv)
           have HO := hid' hor
           have zf : Hid (QI w v1 _ _ _) := (QI.new iN.out).below hbk
           obtain ⟨zc0, zc1, zc2, zc3⟩ := blk2 zf.out.1
           have iN : Hid (BTt w v1) := (iN.out.alloc _).below hbk
           clear hbk hor))
    all_goals (go_wp2_with fail; go_meet; refine ⟨_, _, _, rfl, ?_, ?_, HO.out⟩)
    all_goals first | with_reducible exact iN.out.set2 zf.out _ _ | with_reducible exact zf.out.same _ _ | with_reducible exact iN.out.alloc _ | with_reducible exact QI.new iN.out
  case rest =>
    obtain ⟨gt, tl, th, rfl, hB, hQ, hor⟩ := hcut
    have SS := hid' (SS.out.below hB.hb)
    have BX := hid' hQ.1
    have hgt : gt ≠ g1 := by have := hQ.2; omega
    clear hB hQ HC HW hq a1 a2 b1 b2 hg1l
    rcases hor with ⟨e1, rfl⟩ | ⟨e1, rfl⟩
    · obtain ⟨it, er⟩ := HR1.out _ e1
      have IT : Hid (Iv tl th) := it
      have ER := hid' er
      clear HR0 HR1 it er e1
      go_wp2_with fail
      go_loopw [8, 9] (fun _ x wr => ∃ (j : Nat) (r : Nat → Nat × Nat), k + 1 ≤ j ∧ j ≤ m ∧ x = .int .i64 (j : Int) ∧ TkS w0 w wr g1 g2 m r br ∧ IBx wr gt tl th ∧ takeJ muX suX (tl, th) br (m - j) j r = RES ∧ ∀ i, k ≤ i → i < m → ivW (r i)) (fun _ x _ => m - (intOf x).toNat)
      case atStart => exact ⟨k + 1, row, Nat.le_refl _, hkm, by go_num, SS.out, BX.out, ER.out.symm, I1.out⟩
      case round =>
        obtain ⟨j, r, hj1, hj2, rfl, hs, hbx, hres, hiv⟩ := hrel
        have SS := hid' hs
        have BX := hid' hbx
        have RS := hid' hres
        have IV := hid' hiv
        clear hs hbx hres hiv ER I1
        by_cases hjm : j < m
        · obtain ⟨a1, a2, a3, a4⟩ := SS.out.r1.cell hjm
          obtain ⟨b1, b2, -, -⟩ := SS.out.r2.cell hjm
          obtain ⟨t1, t2, -, -⟩ := blk2 BX.out
          have ia : Hid (Iv (r j).1 (r j).2) := IV.out j (by omega) hjm
          have ib : Hid (Iv (br j).1 (br j).2) := I2.out j (by omega) hjm
          have ET : Hid (takeJ muX suX (tl, th) br (m - j) j r = (lpX muX suX (r j) (tl, th) (br j)).bind fun c => takeJ muX suX (tl, th) br (m - (j + 1)) (j + 1) (upd r j c)) := by
            show _ = _
            rw [show m - j = (m - (j + 1)) + 1 by omega]; rfl
          have ep : ∀ x : Nat × Nat, x = (x.1, x.2) := fun x => rfl
          rw [ep (r j), ep (br j)] at ET
          generalize (r j).1 = al at *
          generalize (r j).2 = ah at *
          generalize (br j).1 = bl_ at *
          generalize (br j).2 = bh at *
          clear ep
          have hq : wr.cell? ⟨g1, j * 2, none⟩ = some (.float .f64 al) ∧ wr.cell? ⟨g1, j * 2 + 1, none⟩ = some (.float .f64 ah) ∧ wr.cell? ⟨g2, j * 2, none⟩ = some (.float .f64 bl_) ∧ wr.cell? ⟨g2, j * 2 + 1, none⟩ = some (.float .f64 bh) := ⟨a1, a2, b1, b2⟩
          have hq2 : wr.cell? ⟨gt, 0, none⟩ = some (.float .f64 tl) ∧ wr.cell? ⟨gt, 1, none⟩ = some (.float .f64 th) := ⟨t1, t2⟩
          go_wp2_with fail
          go_cut [8] (fun s8 wc => ∃ ul uh, TkS w0 w wc g1 g2 m (upd r j (ul, uh)) br ∧ IBx wc gt tl th ∧ (lpX muX suX (al, ah) (tl, th) (bl_, bh) = some (ul, uh) ∧ s8 = .nilIface ∨ lpX muX suX (al, ah) (tl, th) (bl_, bh) = none ∧ s8 = .iface 229 (.pointer (some (A 8)))))
          case first =>
            have m1 : Hid (BTt wr wr) := ⟨Below.refl _ _⟩
            have iN : Hid (BTt wr wr.drew) := m1.out.drew
            have HLL : Hid (∀ W, BTt wr W → Calls Tryz.prog 158 #[.agg #[.float .f64 al, .float .f64 ah], .agg #[.float .f64 tl, .float .f64 th], .agg #[.float .f64 bl_, .float .f64 bh]] W fun ev w' => SvR A W (lpX muX suX (al, ah) (tl, th) (bl_, bh)) ev w') := fun W hW => HL.out W _ _ _ _ _ _ (SS.out.hb.trans (hW.hb.mono SS.out.hb.size)) ia.out IT.out ib.out
            go_region_with (first
              | (go_at_call 158; refine Calls.mono (HLL.out _ ?_) ?_; (exact iN.out); (intro e v0 hsv)
                 (unfold SvR at hsv); (obtain ⟨ul, uh, v, rfl, hbk, hor⟩ := hsv)
                 have HO := hid' hor
                 have iN : Hid (BTt wr v0) := iN.out.below hbk
                 obtain ⟨y1, y2, y3, y4⟩ := (SS.out.below iN.out.hb).r1.cell hjm
                 clear hbk hor))
            all_goals (go_wp2_with fail; go_meet; exact ⟨ul, uh, (SS.out.below iN.out.hb).set hjm ul uh, blk_set_ne (blk_set_ne (blk_below BX.out iN.out.hb) hgt) hgt, HO.out⟩)
          case rest =>
            obtain ⟨ul, uh, hs, hbx, hor⟩ := hcut
            have SS := hid' hs
            have BX := hid' hbx
            clear hs hbx hq hq2 a1 a2 a3 a4 b1 b2 t1 t2
            rcases hor with ⟨e1, rfl⟩ | ⟨e1, rfl⟩
            · have RS2 : Hid (takeJ muX suX (tl, th) br (m - (j + 1)) (j + 1) (upd r j (ul, uh)) = RES) := by
                show _ = _
                rw [← RS.out, ET.out, e1]; rfl
              have IV2 : Hid (∀ i, k ≤ i → i < m → ivW (upd r j (ul, uh) i)) := by
                intro i a b
                by_cases hij : i = j
                · subst hij
                  rw [upd_same]
                  exact lp_iv e1 ia.out
                · rw [upd_ne hij]; exact IV.out i a b
              clear e1 RS ET IV ia ib IT HL I2
              go_wp2
              go_roundw
              case rel => exact ⟨j + 1, _, by omega, by omega, by go_num, SS.out, BX.out, RS2.out, IV2.out⟩
              case measure => simp [intOf]; omega
            · have RS2 : Hid (RES = none) := by
                show _ = _
                rw [← RS.out, ET.out, e1]; rfl
              clear e1 RS ET IV ia ib IT HL I2
              go_wp2
              go_ret
              exact ⟨_, SS.out, .inr ⟨RS2.out, rfl⟩⟩
        · have RS2 : Hid (RES = some r) := by
            show _ = _
            rw [← RS.out, show m - j = 0 by omega]; rfl
          clear RS HL I2 BX IT
          go_wp2
          go_ret
          exact ⟨r, SS.out, .inl ⟨RS2.out, rfl, IV.out⟩⟩
    · have RS2 := hid' (HR0.out e1)
      clear HR0 HR1 HL I2 BX I1 e1
      go_wp2
      go_ret
      exact ⟨row, SS.out, .inr ⟨RS2.out, rfl⟩⟩

theorem takeFrom_any (A : Nat → Addr) (g1 g2 m c1 c2 k n : Nat) (row br : Nat → Nat × Nat) (w0 w : World) (hS : Sents A w0) (s : TkS w0 w w g1 g2 m row br) (hkm : k < m) (hm : m ≤ 100) (hmn : m = n + 1) (i1 : ∀ j, k ≤ j → j < m → ivW (row j)) (i2 : ∀ j, k ≤ j → j < m → ivW (br j)) (hz : ¬ memW (br k) 0) :
    Calls Tryz.prog 157 #[.slice (some ⟨g1, 0, none⟩) m c1, .slice (some ⟨g2, 0, none⟩) m c2, .int .i64 (k : Int)] w fun e w' => ∃ r', TkS w0 w w' g1 g2 m r' br ∧ (takeX muX suX quX n k row br = some r' ∧ e = .returned .nilIface ∧ (∀ j, k ≤ j → j < m → ivW (r' j)) ∨ takeX muX suX quX n k row br = none ∧ e = .returned (.iface 229 (.pointer (some (A 8))))) := by
  have hh : holdsT (plT (br k).1) (plT (br k).2) = false := by
    cases h : holdsT (plT (br k).1) (plT (br k).2)
    · rfl
    · exact absurd ((holds_val _).1 h) hz
  obtain ⟨lo, hi, p, q, f1, f2, hle, hw, hc⟩ := cornD (i1 k (Nat.le_refl _) hkm) (i2 k (Nat.le_refl _) hkm) hh
  have hu : takeX muX suX quX n k row br = (quX (row k) (br k)).bind fun t => takeJ muX suX t br (m - (k + 1)) (k + 1) row := by unfold takeX; rw [show n - k = m - (k + 1) by omega]
  refine takeFrom_walk A g1 g2 m c1 c2 k row br w0 w lo hi (quX (row k) (br k)) _ s hkm hm _ _ _ _ rfl rfl hc (fun W hb => ?_) (fun W al ah bl_ bh cl ch hb ia ib ic => lessProduct_any A W (hS.below hb (Nat.le_refl _)) ia ib ic) (fun h => by rw [hu, h]; rfl) (fun t h => ⟨?_, by rw [hu, h]; rfl⟩) i1 i2
  · have : quX (row k) (br k) = wideX p q := hw.symm
    rw [this]
    exact widened_any A lo hi p q W (hS.below hb (Nat.le_refl _)) f1 f2 hle
  · exact ((corn_ends (f := quoN) (a := row k) (b := br k) (g := fun i j => valW i / valW j) (br_quoW (i1 k (Nat.le_refl _) hkm) (i2 k (Nat.le_refl _) hkm) hz)).1 t h).1
end Go.Proofs.YtonhpkigoplmaaaGreatDoor
namespace Go.Proofs.YtonhpkigoplmaaaGreatDoor
open Go.RowKit Go.Extern Ieee
attribute [local go_sem] run_store_float

/-- The equations' rows in memory: a list of lists, each in a block of its own. -/
structure Mat (W : World) (gr n : Nat) (gb cap : Nat → Nat) (M : Nat → Nat → Nat × Nat) : Prop where
  blk : ∃ cur, W.heap[gr]? = some (.cells cur 86 (0, 0)) ∧ n ≤ cur.size ∧ ∀ i, i < n → cur[i]? = some (.slice (some ⟨gb i, 0, none⟩) (n + 1) (cap i))
  rows : ∀ i, i < n → RowI W (gb i) (n + 1) (M i)
  inj : ∀ i j, i < n → j < n → i ≠ j → gb i ≠ gb j
  caps : ∀ i, i < n → n + 1 ≤ cap i

theorem Mat.below {W W' : World} {gr n : Nat} {gb cap : Nat → Nat} {M : Nat → Nat → Nat × Nat} (m : Mat W gr n gb cap M) (hb : Below W.heap.size W W') : Mat W' gr n gb cap M := by
  obtain ⟨cur, h1, h2⟩ := m.blk
  exact ⟨⟨cur, blk_below h1 hb, h2⟩, fun i hi => (m.rows i hi).below hb, m.inj, m.caps⟩
theorem Mat.head {W : World} {gr n : Nat} {gb cap : Nat → Nat} {M : Nat → Nat → Nat × Nat} (m : Mat W gr n gb cap M) {i : Nat} (hi : i < n) : W.cell? ⟨gr, i, none⟩ = some (.slice (some ⟨gb i, 0, none⟩) (n + 1) (cap i)) ∧ W.frozen? ⟨gr, i, none⟩ = false := by
  obtain ⟨cur, h1, h2, h3⟩ := m.blk
  refine ⟨by rw [cell_of_cur h1]; exact h3 i hi, by simp [World.frozen?, h1]⟩

theorem leq_nn {x y : Nat} (hx : NN x) (hy : NN y) : FloatKind.f64.format.order x y = some (compare (x : Int) (y : Int)) := by
  have := ordK (d := x) (f := y) (by have := hx.le; omega) (by have := hx.le; omega) (by have := hy.le; omega) (by have := hy.le; omega)
  rw [hx.kw, hy.kw] at this
  exact this

/-- 'at', as the program has it. -/
def atV (a : Option Nat) : Int := match a with | none => -1 | some i => (i : Int)

set_option maxHeartbeats 8000000 in
set_option maxRecDepth 100000 in
theorem pivot_any (A : Nat → Addr) (gr n cr k : Nat) (gb cap : Nat → Nat) (M : Nat → Nat → Nat × Nat) (w : World) (hS : Sents A w) (hM : Mat w gr n gb cap M) (hk : k < n) (hn : n ≤ 100) (iv : ∀ i j, k ≤ i → i < n → k ≤ j → j < n → ivW (M i j)) :
    Calls Tryz.prog 156 #[.slice (some ⟨gr, 0, none⟩) n cr, .int .i64 (k : Int)] w fun e w' => Below w.heap.size w w' ∧ ((∃ a, pvX M n k = some a ∧ e = .returned (.tuple #[.int .i64 (a : Int), .nilIface])) ∨ pvX M n k = none ∧ e = .returned (.tuple #[.int .i64 0, .iface 229 (.pointer (some (A 8)))])) := by
  have HM := hid' hM
  have HS := hid' hS
  have IV := hid' iv
  clear hM hS iv
  go_enter Tryz.func156, Tryz.ntmps156
  go_wp2_with fail
  go_step3
  go_wp2_with fail
  go_step3
  go_wp2_with fail
  go_loopg [6, 7, 8] (n - k) (fun gg y6 y7 y8 wr => ∃ (i best : Nat) (at_ : Option Nat), k ≤ i ∧ i ≤ n ∧ gg = n - i ∧ y8 = .int .i64 (i : Int) ∧ y6 = .float .f64 best ∧ y7 = .int .i64 (atV at_) ∧ NN best ∧ pvI M n k (n - i) i best at_ = pvX M n k ∧ Below w.heap.size w wr)
  case atStart => exact ⟨k, 0, none, Nat.le_refl _, by omega, rfl, rfl, rfl, rfl, ⟨by decide⟩, rfl, Below.refl _ _⟩
  case round =>
    obtain ⟨i, best, at_, hi1, hi2, hgk, rfl, rfl, rfl, hnb, hpv, hb⟩ := hrel
    have HNB := hid' hnb
    have HPV := hid' hpv
    have HB := hid' hb
    clear hnb hpv hb
    by_cases hin : i < n
    · have MM := hid' (HM.out.below HB.out)
      obtain ⟨h1, -⟩ := MM.out.head hin
      obtain ⟨r1, r2, -, -⟩ := (MM.out.rows i hin).cell (j := k) (by omega)
      have ik : Hid (Iv (M i k).1 (M i k).2) := IV.out i k hi1 hin (Nat.le_refl _) hk
      have HL : Hid (∀ W, Calls Tryz.prog 177 #[.agg #[.float .f64 (M i k).1, .float .f64 (M i k).2]] W fun e w' => e = .returned (.float .f64 (lsW (M i k))) ∧ Below W.heap.size W w') := fun W => least_any ik.out W
      have hpl := hid' (ls_ok (a := M i k) ik.out).1
      have EP : Hid (pvI M n k (n - i) i best at_ = if lsW (M i k) = 0 then pvI M n k (n - (i + 1)) (i + 1) best at_ else match shJ (M i) (lsW (M i k)) best (n - k) k 4607182418800017408 with | none => pvI M n k (n - (i + 1)) (i + 1) best at_ | some s => pvI M n k (n - (i + 1)) (i + 1) s (some i)) := by
        show _ = _
        rw [show n - i = (n - (i + 1)) + 1 by omega]; rfl
      generalize lsW (M i k) = least at *
      generalize (M i k).1 = al at *
      generalize (M i k).2 = ah at *
      clear ik
      go_wp2_with fail
      refine Calls.mono (HL.out _) ?_
      rintro e w1 ⟨rfl, hb1⟩
      have HB1 := hid' (HB.out.trans (hb1.mono HB.out.size))
      have MM := hid' (MM.out.below hb1)
      clear HB HL h1 r1 r2 hb1
      have o0 : FloatKind.f64.format.order least 0 = some (compare (least : Int) ((0 : Nat) : Int)) := leq_nn hpl.out.nn ⟨by decide⟩
      by_cases hl0 : least = 0
      · rw [cmp_eq' (show (least : Int) = ((0 : Nat) : Int) by omega)] at o0
        have EP2 : Hid (pvI M n k (n - (i + 1)) (i + 1) best at_ = pvX M n k) := by
          show _ = _
          rw [← HPV.out, EP.out, if_pos hl0]
        clear EP HPV MM IV
        go_wp2
        go_roundg (n - (i + 1))
        case rel => exact ⟨i + 1, best, at_, by omega, by omega, rfl, by go_num, rfl, rfl, HNB.out, EP2.out, HB1.out⟩
        case measure => omega
      · rw [cmp_gt' (show ((0 : Nat) : Int) < (least : Int) by omega)] at o0
        have EP2 : Hid ((match shJ (M i) least best (n - k) k 4607182418800017408 with | none => pvI M n k (n - (i + 1)) (i + 1) best at_ | some s => pvI M n k (n - (i + 1)) (i + 1) s (some i)) = pvX M n k) := by
          show _ = _
          rw [← HPV.out, EP.out, if_neg hl0]
        clear EP HPV
        obtain ⟨h1, -⟩ := MM.out.head hin
        have hcap := MM.out.caps i hin
        have IV2 : Hid (∀ j, j < n - k → ivW (M i (k + j))) := fun j hj => IV.out i (k + j) hi1 hin (by omega) (by omega)
        have hk2 : k ≤ n := by omega
        have hk3 : n ≤ cap i := by omega
        clear IV
        generalize hsh : shJ (M i) least best (n - k) k 4607182418800017408 = SH at *
        have HSH := hid' hsh
        clear hsh
        go_wp2_with fail
        go_loopg [10, 39] (n - k) (fun g2 y10 y39 wy => ∃ (j sh : Nat), j ≤ n - k ∧ g2 = n - k - j ∧ y39 = .int .i64 (j : Int) ∧ y10 = .float .f64 sh ∧ NN sh ∧ shJ (M i) least best (n - k - j) (k + j) sh = SH ∧ Below w.heap.size w wy ∧ Mat wy gr n gb cap M)
        case atStart => exact ⟨0, _, by omega, by omega, rfl, rfl, ⟨by decide⟩, HSH.out, HB1.out, MM.out⟩
        case round =>
          obtain ⟨j, sh, hj1, hg2, rfl, rfl, hns, hse, hbw, hmw⟩ := hrel
          have HNS := hid' hns
          have HSE := hid' hse
          have HBW := hid' hbw
          have MM := hid' hmw
          clear hns hse hbw hmw HSH HB1 h1
          by_cases hj : j < n - k
          · obtain ⟨r1, r2, -, -⟩ := (MM.out.rows i hin).cell (j := k + j) (by omega)
            rw [show (k + j) * 2 = k * 2 + j * 2 by omega] at r1 r2
            have ij : Hid (Iv (M i (k + j)).1 (M i (k + j)).2) := IV2.out j hj
            have HG : Hid (∀ W, Calls Tryz.prog 178 #[.agg #[.float .f64 (M i (k + j)).1, .float .f64 (M i (k + j)).2]] W fun e w' => e = .returned (.float .f64 (gtW (M i (k + j)))) ∧ Below W.heap.size W w') := fun W => greatest_any ij.out W
            have hgt := hid' (gt_ok (a := M i (k + j)) ij.out).1
            have ES : Hid (shJ (M i) least best (n - k - j) (k + j) sh = if kw (fmin sh (dvW least (gtW (M i (k + j))))) ≤ kw best then none else shJ (M i) least best (n - k - (j + 1)) (k + (j + 1)) (fmin sh (dvW least (gtW (M i (k + j)))))) := by
              show _ = _
              rw [show n - k - j = (n - k - (j + 1)) + 1 by omega]; rfl
            generalize gtW (M i (k + j)) = gw at *
            generalize (M i (k + j)).1 = bl_ at *
            generalize (M i (k + j)).2 = bh at *
            obtain ⟨hdv, hdn⟩ := dv_nn hpl.out hl0 hgt.out
            have hqq : ∀ w, (binOp .quo 65 (.float .f64 least) (.float .f64 gw)).run Tryz.prog w = .ok (.float .f64 (dvW least gw)) w := fun w => run_float_arith w .quo _ .f64 least gw _ hdv
            have mn : ∀ (w : World) (ts : Array TypeId) (t : TypeId), (Builtin.min_ ts t #[.float .f64 sh, .float .f64 (dvW least gw)]).run Tryz.prog w = .ok (.float .f64 (fmin sh (dvW least gw))) w := fun w ts t => run_min_float w ts t HNS.out.fr hdn.fr
            have hfm := hid' (HNS.out.fmin hdn).2
            have lr := (MM.out.rows i hin).lt
            generalize fmin sh (dvW least gw) = s2 at *
            generalize dvW least gw = q2 at *
            have ol := leq_nn hfm.out HNB.out
            rw [hfm.out.kw, HNB.out.kw] at ES
            clear ij
            go_wp2_with fail
            refine Calls.mono (HG.out _) ?_
            rintro e w2 ⟨rfl, hb2⟩
            have hbx : Below wr.heap.size wr w2 := ((Below.refl _ wr).alloc (Nat.le_refl _) _).trans (hb2.mono (by simp))
            have HBW := hid' (HBW.out.trans (hbx.mono HBW.out.size))
            have MM := hid' (MM.out.below hbx)
            clear hbx hb2 HG r1 r2 lr hdv hdn
            by_cases hle : s2 ≤ best
            · have EN : Hid (pvI M n k (n - (i + 1)) (i + 1) best at_ = pvX M n k) := by
                show _ = _
                have : SH = none := by rw [← HSE.out, ES.out, if_pos (by omega)]
                have h2 := EP2.out
                rw [this] at h2
                exact h2
              clear EP2 HSE ES MM IV2
              rcases (show s2 < best ∨ s2 = best by omega) with h | h
              · rw [cmp_lt' (show (s2 : Int) < (best : Int) by omega)] at ol
                go_wp2
                go_roundg (n - (i + 1))
                case rel => exact ⟨i + 1, best, at_, by omega, by omega, rfl, by go_num, rfl, rfl, HNB.out, EN.out, HBW.out⟩
                case measure => omega
              · rw [cmp_eq' (show (s2 : Int) = (best : Int) by omega)] at ol
                clear h hle
                go_wp2
                go_roundg (n - (i + 1))
                case rel => exact ⟨i + 1, best, at_, by omega, by omega, rfl, by go_num, rfl, rfl, HNB.out, EN.out, HBW.out⟩
                case measure => omega
            · rw [cmp_gt' (show (best : Int) < (s2 : Int) by omega)] at ol
              have EN : Hid (shJ (M i) least best (n - k - (j + 1)) (k + (j + 1)) s2 = SH) := by
                show _ = _
                rw [← HSE.out, ES.out, if_neg (by omega)]
              clear HSE ES
              go_wp2
              go_roundg (n - k - (j + 1))
              case rel => exact ⟨j + 1, s2, by omega, rfl, by go_num, rfl, hfm.out, EN.out, HBW.out, MM.out⟩
              case measure => omega
          · have EN : Hid (pvI M n k (n - (i + 1)) (i + 1) sh (some i) = pvX M n k) := by
              show _ = _
              have : SH = some sh := by rw [← HSE.out, show n - k - j = 0 by omega]; rfl
              have h2 := EP2.out
              rw [this] at h2
              exact h2
            clear EP2 HSE MM IV2
            go_wp2
            go_roundg (n - (i + 1))
            case rel => exact ⟨i + 1, sh, some i, by omega, by omega, rfl, by go_num, rfl, rfl, HNS.out, EN.out, HBW.out⟩
            case measure => omega
    · have EN : Hid (at_ = pvX M n k) := by
        show _ = _
        rw [← HPV.out, show n - i = 0 by omega]; rfl
      clear HPV HM IV
      cases at_ with
      | none =>
        have c8 : wr.cell? ⟨8, 0, none⟩ = some (.iface 229 (.pointer (some (A 8)))) := (HS.out.below HB.out (Nat.le_refl _)).cell 8 (by omega)
        have ha : atV none = -1 := rfl
        rw [ha]
        go_wp2_with fail
        go_region
        all_goals go_wp2
        all_goals (rw [Exit.noGoto_ret]; refine bodyPost_ret (v := .tuple #[.int .i64 0, .iface 229 (.pointer (some (A 8)))]) (by simp [results, Tryz.results156, go_sem]) rfl ?_; exact ⟨HB.out.drew, .inr ⟨EN.out.symm, rfl⟩⟩)
      | some a =>
        have ha : atV (some a) = (a : Int) := rfl
        rw [ha]
        go_wp2
        rw [Exit.noGoto_ret]
        refine bodyPost_ret (v := .tuple #[.int .i64 (a : Int), .nilIface]) (by simp [results, Tryz.results156, go_sem]) rfl ?_
        exact ⟨HB.out, .inl ⟨a, EN.out.symm, rfl⟩⟩
end Go.Proofs.YtonhpkigoplmaaaGreatDoor
namespace Go.Proofs.YtonhpkigoplmaaaGreatDoor
open Go.RowKit Go.Extern Ieee
attribute [local go_sem] run_store_float

theorem Mat.ne {W : World} {gr n : Nat} {gb cap : Nat → Nat} {M : Nat → Nat → Nat × Nat} (m : Mat W gr n gb cap M) {i : Nat} (hi : i < n) : gb i ≠ gr := by
  intro e
  obtain ⟨cur, h1, _⟩ := m.blk
  obtain ⟨cur2, h2, _⟩ := m.rows i hi
  rw [e, h1] at h2
  cases h2

theorem Mat.take {W W' : World} {gr n : Nat} {gb cap : Nat → Nat} {M : Nat → Nat → Nat × Nat} (m : Mat W gr n gb cap M) {i : Nat} (hi : i < n) (hg : W.grownBy W' (some (gb i))) {r' : Nat → Nat × Nat} (hr : RowI W' (gb i) (n + 1) r') : Mat W' gr n gb cap (upd M i r') := by
  obtain ⟨cur, h1, h2⟩ := m.blk
  refine ⟨⟨cur, (hg.block gr (lt_of_row h1) (fun e => m.ne hi (by cases e; rfl))).trans h1, h2⟩, fun j hj => ?_, m.inj, m.caps⟩
  by_cases hij : j = i
  · subst hij; rw [upd_same]; exact hr
  · rw [upd_ne hij]; exact (m.rows j hj).grown hg (m.inj j i hj hi hij)

theorem Mat.swap {W : World} {gr n : Nat} {gb cap : Nat → Nat} {M : Nat → Nat → Nat × Nat} (m : Mat W gr n gb cap M) {k a : Nat} (hk : k < n) (ha : a < n) : Mat ((W.setCell ⟨gr, k, none⟩ (.slice (some ⟨gb a, 0, none⟩) (n + 1) (cap a))).setCell ⟨gr, a, none⟩ (.slice (some ⟨gb k, 0, none⟩) (n + 1) (cap k))) gr n (swapR gb k a) (swapR cap k a) (swapR M k a) := by
  obtain ⟨cur, h1, h2, h3⟩ := m.blk
  have hs : ∀ i, i < n → (i = k → swapR gb k a i = gb a) ∧ (i ≠ k → i = a → swapR gb k a i = gb k) ∧ (i ≠ k → i ≠ a → swapR gb k a i = gb i) := by
    intro i _
    unfold swapR
    refine ⟨fun h => by rw [if_pos h], fun h h' => by rw [if_neg h, if_pos h'], fun h h' => by rw [if_neg h, if_neg h']⟩
  have hg : ∀ i v, W.grownBy (W.setCell ⟨gr, i, none⟩ v) (some gr) := fun i v => grown_set W gr i v
  refine ⟨⟨_, blk_set_cur (blk_set_cur h1 _ _) _ _, by simpa using h2, fun i hi => ?_⟩, fun i hi => ?_, fun i j hi hj hij => ?_, fun i hi => ?_⟩
  · unfold swapR
    by_cases ia : i = a
    · subst ia
      rw [Array.getElem?_setIfInBounds_self_of_lt (by simp; omega)]
      by_cases ik : i = k
      · subst ik; rw [if_pos rfl, if_pos rfl]
      · rw [if_neg ik, if_pos rfl, if_neg ik, if_pos rfl]
    · rw [Array.getElem?_setIfInBounds_ne (fun e => ia e.symm)]
      by_cases ik : i = k
      · subst ik
        rw [Array.getElem?_setIfInBounds_self_of_lt (by omega), if_pos rfl, if_pos rfl]
      · rw [Array.getElem?_setIfInBounds_ne (fun e => ik e.symm), if_neg ik, if_neg ia, if_neg ik, if_neg ia]; exact h3 i hi
  · have key : ∀ j, j < n → RowI ((W.setCell ⟨gr, k, none⟩ (.slice (some ⟨gb a, 0, none⟩) (n + 1) (cap a))).setCell ⟨gr, a, none⟩ (.slice (some ⟨gb k, 0, none⟩) (n + 1) (cap k))) (gb j) (n + 1) (M j) := fun j hj => ((m.rows j hj).grown (grown_set W gr k _) (m.ne hj)).grown (grown_set _ gr a _) (m.ne hj)
    unfold swapR
    by_cases ik : i = k
    · rw [if_pos ik, if_pos ik]; exact key a ha
    · rw [if_neg ik, if_neg ik]
      by_cases ia : i = a
      · rw [if_pos ia, if_pos ia]; exact key k hk
      · rw [if_neg ia, if_neg ia]; exact key i hi
  · unfold swapR
    by_cases ik : i = k <;> by_cases jk : j = k
    · omega
    · rw [if_pos ik, if_neg jk]
      by_cases ja : j = a
      · rw [if_pos ja]; exact m.inj a k ha hk (by omega)
      · rw [if_neg ja]; exact m.inj a j ha hj (by omega)
    · rw [if_neg ik, if_pos jk]
      by_cases ia : i = a
      · rw [if_pos ia]; exact m.inj k a hk ha (by omega)
      · rw [if_neg ia]; exact m.inj i a hi ha (by omega)
    · rw [if_neg ik, if_neg jk]
      by_cases ia : i = a <;> by_cases ja : j = a
      · omega
      · rw [if_pos ia, if_neg ja]; exact m.inj k j hk hj (by omega)
      · rw [if_neg ia, if_pos ja]; exact m.inj i k hi hk (by omega)
      · rw [if_neg ia, if_neg ja]; exact m.inj i j hi hj hij
  · unfold swapR
    by_cases ik : i = k
    · rw [if_pos ik]; exact m.caps a ha
    · rw [if_neg ik]
      by_cases ia : i = a
      · rw [if_pos ia]; exact m.caps k hk
      · rw [if_neg ia]; exact m.caps i hi

/-- Where the elimination stands before the k-th pivot. -/
structure El (w0 W : World) (gr n : Nat) (gb cap : Nat → Nat) (M : Nat → Nat → Nat × Nat) (k : Nat) : Prop where
  mat : Mat W gr n gb cap M
  hb : Below w0.heap.size w0 W
  gg : w0.heap.size ≤ gr
  gs : ∀ i, i < n → w0.heap.size ≤ gb i
  iv : ∀ y x, y < n → (y ≤ x ∨ k ≤ x) → x ≤ n → ivW (M y x)
  nz : ∀ y, y < k → y < n → ¬ memW (M y y) 0

theorem El.below {w0 W W' : World} {gr n : Nat} {gb cap : Nat → Nat} {M : Nat → Nat → Nat × Nat} {k : Nat} (e : El w0 W gr n gb cap M k) (hb : Below W.heap.size W W') : El w0 W' gr n gb cap M k :=
  ⟨e.mat.below hb, e.hb.trans (hb.mono e.hb.size), e.gg, e.gs, e.iv, e.nz⟩

/-- Behind the swap: the k-th row has its pivot. -/
structure Em (w0 W : World) (gr n : Nat) (gb cap : Nat → Nat) (M : Nat → Nat → Nat × Nat) (k i : Nat) : Prop where
  mat : Mat W gr n gb cap M
  hb : Below w0.heap.size w0 W
  gg : w0.heap.size ≤ gr
  gs : ∀ i, i < n → w0.heap.size ≤ gb i
  iv : ∀ y x, y < n → (y ≤ x ∨ k ≤ x) → x ≤ n → ivW (M y x)
  nz : ∀ y, y ≤ k → y < n → ¬ memW (M y y) 0
end Go.Proofs.YtonhpkigoplmaaaGreatDoor
