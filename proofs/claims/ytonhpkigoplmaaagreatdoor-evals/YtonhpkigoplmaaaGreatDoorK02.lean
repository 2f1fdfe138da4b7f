/-
  ApP, ApL, LawQ, AppliesProof.
-/
import Derived.Test.YtonhpkigoplmaaaGreatDoorJ20
import Derived.Test.YtonhpkigoplmaaaGreatDoorJ21
import Derived.Test.YtonhpkigoplmaaaGreatDoorK01
import Derived.Deep.DeepCutAuto
import Derived.Test.YtonhpkigoplmaaaGreatDoorRows
import Derived.Test.YtonhpkigoplmaaaGreatDoorCards
import Derived.Test.YtonhpkigoplmaaaGreatDoorTie
import Derived.Test.YtonhpkigoplmaaaGreatDoorJ22
import Derived.ProofKit
import Derived.LaidMore
import Derived.OpenShut
import Derived.Stop.Joined
import Derived.SevenTiedAt
import Derived.SizedLaws
namespace Go.Proofs.YtonhpkigoplmaaaGreatDoor
open Go.RowKit Go.Extern Ieee
attribute [local go_sem] run_store_float

theorem ErrIs.set2 {A : Nat → Addr} {w : World} {v : Value} {k : Nat} {s : ByteArray} {n0 g x y : Nat} {u u' : Value} (h : ErrIs A w v k s) (z : IBox n0 w g x y) : ErrIs A ((w.setCell ⟨g, 0, none⟩ u).setCell ⟨g, 1, none⟩ u') v k s :=
  (h.set (BoxT.of z.1) (by decide)).set (BoxT.of z.1).set (by decide)
theorem ErrIs.alloc {A : Nat → Addr} {w : World} {v : Value} {k : Nat} {s : ByteArray} (h : ErrIs A w v k s) (o : Obj) : ErrIs A (w.alloc o) v k s := h.below ((Below.refl _ _).alloc (Nat.le_refl _) o)

set_option maxRecDepth 100000 in
set_option maxHeartbeats 8000000 in
theorem plainApply_any (A : Nat → Addr) (s : ByteArray) (xl xh yl yh al ah bl bh r1 r2 r3 : Nat) (rs : ByteArray) (w : World) (hS : Sents A w)
    (hx : ∀ w, Sents A w → Calls Tryz.prog 40 #[.agg #[.int .u64 (xl : Int), .int .u64 (xh : Int)]] w fun e w' => e = .returned (.agg #[.float .f64 al, .float .f64 ah]) ∧ Below w.heap.size w w')
    (hy : ∀ w, Sents A w → Calls Tryz.prog 40 #[.agg #[.int .u64 (yl : Int), .int .u64 (yh : Int)]] w fun e w' => e = .returned (.agg #[.float .f64 bl, .float .f64 bh]) ∧ Below w.heap.size w w')
    (h : ∀ w, Sents A w → Calls Tryz.prog 71 #[.string s, .agg #[.float .f64 al, .float .f64 ah], .agg #[.float .f64 bl, .float .f64 bh]] w fun ev w' => OpR A w r1 r2 r3 rs ev w') :
    Calls Tryz.prog 30 #[.string s, .agg #[.int .u64 (xl : Int), .int .u64 (xh : Int)], .agg #[.int .u64 (yl : Int), .int .u64 (yh : Int)]] w fun e w' => e = .returned (.tuple #[.agg #[.int .u64 (r1 : Int), .int .u64 (r2 : Int)], .int .i64 (r3 : Int), .string rs]) ∧ Below w.heap.size w w' := by
  have HX : Hid (∀ W, Below w.heap.size w W → Calls Tryz.prog 40 #[.agg #[.int .u64 (xl : Int), .int .u64 (xh : Int)]] W fun e w' => e = .returned (.agg #[.float .f64 al, .float .f64 ah]) ∧ Below W.heap.size W w') := fun W hb => hx W (hS.below hb (Nat.le_refl _))
  have HY : Hid (∀ W, Below w.heap.size w W → Calls Tryz.prog 40 #[.agg #[.int .u64 (yl : Int), .int .u64 (yh : Int)]] W fun e w' => e = .returned (.agg #[.float .f64 bl, .float .f64 bh]) ∧ Below W.heap.size W w') := fun W hb => hy W (hS.below hb (Nat.le_refl _))
  have HA : Hid (∀ W, Below w.heap.size w W → Calls Tryz.prog 71 #[.string s, .agg #[.float .f64 al, .float .f64 ah], .agg #[.float .f64 bl, .float .f64 bh]] W fun ev w' => OpR A W r1 r2 r3 rs ev w') := fun W hb => h W (hS.below hb (Nat.le_refl _))
  have HBX : Hid (∀ W : World, Calls Tryz.prog 50 #[.agg #[.float .f64 r1, .float .f64 r2]] W fun e w' => e = .returned (.agg #[.int .u64 (r1 : Int), .int .u64 (r2 : Int)]) ∧ Below W.heap.size W w') := fun W => box_any r1 r2 W
  have HCD : Hid (∀ (W : World) (v : Value), Below w.heap.size w W → ErrIs A W v r3 rs → Calls Tryz.prog 49 #[v] W fun e w' => e = .returned (.tuple #[.int .i64 (r3 : Int), .string rs]) ∧ Below W.heap.size W w') := fun W v hb he => code_any A v r3 rs W (hS.below hb (Nat.le_refl _)) he
  clear hx hy hS h
  go_enter Tryz.func30, Tryz.ntmps30
  go_wp2_with fail
  have m0 : Hid (PSt w (((w.alloc (Obj.cells #[.int .u64 (xl : Int), .int .u64 (xh : Int)] 33)).alloc (Obj.cells #[.int .u64 (yl : Int), .int .u64 (yh : Int)] 33)).alloc (Obj.cells #[.int .u64 0, .int .u64 0] 33)) (w.heap.size + 1 + 1) (w.heap.size + 1 + 1 + 1) (.int .u64 (xl : Int)) (.int .u64 (xh : Int)) (.int .u64 (yl : Int)) (.int .u64 (yh : Int))) := by
    have B0 := blk_old (blk_old (blk_new w (Obj.cells #[.int .u64 (xl : Int), .int .u64 (xh : Int)] 33)) (Obj.cells #[.int .u64 (yl : Int), .int .u64 (yh : Int)] 33)) (Obj.cells #[.int .u64 0, .int .u64 0] 33)
    have B1 := blk_old (blk_new (w.alloc (Obj.cells #[.int .u64 (xl : Int), .int .u64 (xh : Int)] 33)) (Obj.cells #[.int .u64 (yl : Int), .int .u64 (yh : Int)] 33)) (Obj.cells #[.int .u64 0, .int .u64 0] 33)
    have B2 := blk_new ((w.alloc (Obj.cells #[.int .u64 (xl : Int), .int .u64 (xh : Int)] 33)).alloc (Obj.cells #[.int .u64 (yl : Int), .int .u64 (yh : Int)] 33)) (Obj.cells #[.int .u64 0, .int .u64 0] 33)
    simp only [World.size_alloc] at B1 B2
    exact ⟨B0, B1, B2, (((Below.refl _ _).alloc (Nat.le_refl _) _).alloc (by simp) _).alloc (by simp; omega) _, by simp, by omega, by omega, by omega, by omega⟩
  generalize (((w.alloc (Obj.cells #[.int .u64 (xl : Int), .int .u64 (xh : Int)] 33)).alloc (Obj.cells #[.int .u64 (yl : Int), .int .u64 (yh : Int)] 33)).alloc (Obj.cells #[.int .u64 0, .int .u64 0] 33)) = W2 at *
  generalize hn0 : w.heap.size + 1 + 1 + 1 = n0 at *
  generalize hg2 : w.heap.size + 1 + 1 = g2 at *
  go_cut [9, 10] (fun s9 s10 wc => ∃ g, s9 = .pointer (some ⟨g, 0, none⟩) ∧ PSt w wc g2 n0 (.int .u64 (xl : Int)) (.int .u64 (xh : Int)) (.int .u64 (yl : Int)) (.int .u64 (yh : Int)) ∧ IBox n0 wc g r1 r2 ∧ ErrIs A wc s10 r3 rs)
  case first =>
    clear hn0 hg2
    have iN : Hid (PSt w W2.drew g2 n0 (.int .u64 (xl : Int)) (.int .u64 (xh : Int)) (.int .u64 (yl : Int)) (.int .u64 (yh : Int))) := m0.out.drew
    go_region_held3 (fun W => W.cell? ⟨w.heap.size, 0, none⟩ = some (.int .u64 (xl : Int)) ∧ W.cell? ⟨w.heap.size, 1, none⟩ = some (.int .u64 (xh : Int)) ∧ W.cell? ⟨w.heap.size + 1, 0, none⟩ = some (.int .u64 (yl : Int)) ∧ W.cell? ⟨w.heap.size + 1, 1, none⟩ = some (.int .u64 (yh : Int))) (first | with_reducible exact iN.out.cells | with_reducible exact (m0.out.alloc _).drew.cells | with_reducible exact (iN.out.alloc _).cells | with_reducible exact (iN.out.set2 zf.out.le _ _).cells)
      (first
        | (go_at_call 40; with_reducible (refine Calls.mono (HX.out _ ?_) ?_); (with_reducible exact iN.out.hb); rintro e v0 ⟨rfl, hbk⟩
           have iN : Hid (PSt w v0 g2 n0 (.int .u64 (xl : Int)) (.int .u64 (xh : Int)) (.int .u64 (yl : Int)) (.int .u64 (yh : Int))) := iN.out.below hbk
           clear hbk)
        | (go_at_call 40; with_reducible (refine Calls.mono (HX.out _ ?_) ?_); (with_reducible exact (m0.out.alloc _).drew.hb); rintro e v0 ⟨rfl, hbk⟩
           have zf : Hid (IBox n0 v0 _ 0 0) := (IBox.new m0.out.sz).drew.below hbk
           have iN : Hid (PSt w v0 g2 n0 (.int .u64 (xl : Int)) (.int .u64 (xh : Int)) (.int .u64 (yl : Int)) (.int .u64 (yh : Int))) := (m0.out.alloc _).drew.below hbk
           clear hbk)
        | (go_at_call 40; with_reducible (refine Calls.mono (HY.out _ ?_) ?_); (with_reducible exact iN.out.hb); rintro e v1 ⟨rfl, hbk⟩
           try (have zf : Hid (IBox n0 v1 _ 0 0) := zf.out.below hbk)
           have iN : Hid (PSt w v1 g2 n0 (.int .u64 (xl : Int)) (.int .u64 (xh : Int)) (.int .u64 (yl : Int)) (.int .u64 (yh : Int))) := iN.out.below hbk
           clear hbk)
        | (go_at_call 40; with_reducible (refine Calls.mono (HY.out _ ?_) ?_); (with_reducible exact (iN.out.alloc _).hb); rintro e v1 ⟨rfl, hbk⟩
           have zf : Hid (IBox n0 v1 _ 0 0) := (IBox.new iN.out.sz).below hbk
           have iN : Hid (PSt w v1 g2 n0 (.int .u64 (xl : Int)) (.int .u64 (xh : Int)) (.int .u64 (yl : Int)) (.int .u64 (yh : Int))) := (iN.out.alloc _).below hbk
           clear hbk)
        | (go_at_call 71; with_reducible (refine Calls.mono (HA.out _ ?_) ?_); (with_reducible exact iN.out.hb); (intro e v2 h); (unfold OpR at h); (obtain ⟨v, rfl, hE, hbk⟩ := h)
           try (have zf : Hid (IBox n0 v2 _ 0 0) := zf.out.below hbk; obtain ⟨zc0, zc1, zc2, zc3⟩ := blk2 zf.out.1)
           have HE : Hid (ErrIs A v2 v r3 rs) := hE
           clear hE
           have iN : Hid (PSt w v2 g2 n0 (.int .u64 (xl : Int)) (.int .u64 (xh : Int)) (.int .u64 (yl : Int)) (.int .u64 (yh : Int))) := iN.out.below hbk
           clear hbk)
        | (go_at_call 71; with_reducible (refine Calls.mono (HA.out _ ?_) ?_); (with_reducible exact (iN.out.alloc _).hb); (intro e v2 h); (unfold OpR at h); (obtain ⟨v, rfl, hE, hbk⟩ := h)
           have zf : Hid (IBox n0 v2 _ 0 0) := (IBox.new iN.out.sz).below hbk
           obtain ⟨zc0, zc1, zc2, zc3⟩ := blk2 zf.out.1
           have HE : Hid (ErrIs A v2 v r3 rs) := hE
           clear hE
           have iN : Hid (PSt w v2 g2 n0 (.int .u64 (xl : Int)) (.int .u64 (xh : Int)) (.int .u64 (yl : Int)) (.int .u64 (yh : Int))) := (iN.out.alloc _).below hbk
           clear hbk))
    all_goals (go_wp2_with fail; go_meet; refine ⟨_, rfl, ?_, ?_, ?_⟩)
    all_goals first | with_reducible exact iN.out.set2 zf.out.le _ _ | with_reducible exact zf.out.same _ _ | with_reducible exact HE.out.set2 zf.out | with_reducible exact iN.out.alloc _ | with_reducible exact IBox.new iN.out.sz | with_reducible exact HE.out.alloc _
  case rest =>
    clear HX HY HA hn0 hg2 m0
    obtain ⟨gc, rfl, hP, hI, hE⟩ := hcut
    have MP : Hid (PSt w wc g2 n0 (.int .u64 (xl : Int)) (.int .u64 (xh : Int)) (.int .u64 (yl : Int)) (.int .u64 (yh : Int))) := hP
    have IC : Hid (IBox n0 wc gc r1 r2) := hI
    have HE : Hid (ErrIs A wc _ r3 rs) := hE
    clear hP hI hE
    go_wp2_with fail
    refine Calls.mono (HCD.out _ _ MP.out.hb HE.out) ?_
    rintro e w7 ⟨rfl, hb7⟩
    have IC7 : Hid (IBox n0 w7 gc r1 r2) := IC.out.below hb7
    have MP7 : Hid (PSt w w7 g2 n0 _ _ _ _) := MP.out.below hb7
    clear hb7 IC MP HE
    obtain ⟨c0, c1, -, -⟩ := blk2 IC7.out.1
    go_wp2_with fail
    refine Calls.mono (HBX.out _) ?_
    rintro e w8 ⟨rfl, hb8⟩
    have MP8 : Hid (PSt w w8 g2 n0 _ _ _ _) := MP7.out.below hb8
    clear hb8 MP7 IC7 c0 c1
    obtain ⟨d0, d1, d2, d3⟩ := blk2 MP8.out.k2
    go_wp2_with fail
    obtain ⟨p0, p1, -, -⟩ := blk2 (blk_store2 (a := .int .u64 (r1 : Int)) (b := .int .u64 (r2 : Int)) MP8.out.k2)
    refine bodyPost_ret (v := .tuple #[.agg #[.int .u64 (r1 : Int), .int .u64 (r2 : Int)], .int .i64 (r3 : Int), .string rs]) (by simp [results, Tryz.results30, go_sem, p0, p1]) rfl ?_
    exact ⟨rfl, (MP8.out.hb.setCell (by exact MP8.out.l2) _).setCell (by exact MP8.out.l2) _⟩
end Go.Proofs.YtonhpkigoplmaaaGreatDoor
namespace Go.Proofs.YtonhpkigoplmaaaGreatDoor
open Go.RowKit Go.Extern Ieee

/-- What Apply gives. -/
def applyN (s : ByteArray) (a1 a2 b1 b2 : Bool × Nat × Int) : Nat × Nat × Nat × ByteArray :=
  if s.toList = [104, 117, 108, 108] then refOpN 1 a1 a2 b1 b2
  else if s.toList = [109, 101, 101, 116] then refOpN 2 a1 a2 b1 b2
  else if s.toList = [43] then refOpN 3 a1 a2 b1 b2
  else if s.toList = [45] then refOpN 4 a1 a2 b1 b2
  else if s.toList = [42] then refOpN 5 a1 a2 b1 b2
  else if s.toList = [47] then refOpN 6 a1 a2 b1 b2
  else (0, 0, 7, s)

theorem refApply_any (s : ByteArray) (xl xh yl yh : Nat) (h1 : xl < 18446744073709551616) (h2 : xh < 18446744073709551616) (h3 : yl < 18446744073709551616) (h4 : yh < 18446744073709551616) (w : World) (al ah bl_ bh : Nat) (e1 : al = (makeN xl xh).1) (e2 : ah = (makeN xl xh).2.1) (e3 : bl_ = (makeN yl yh).1) (e4 : bh = (makeN yl yh).2.1) (r : Nat × Nat × Nat × ByteArray) (hr : r = applyN s (plT al) (plT ah) (plT bl_) (plT bh)) :
    Calls Tryz.prog 31 #[.string s, .agg #[.int .u64 (xl : Int), .int .u64 (xh : Int)], .agg #[.int .u64 (yl : Int), .int .u64 (yh : Int)]] w fun e w' => e = .returned (.tuple #[.agg #[.int .u64 (r.1 : Int), .int .u64 (r.2.1 : Int)], .int .i64 (r.2.2.1 : Int), .string r.2.2.2]) ∧ Below w.heap.size w w' := by
  unfold applyN at hr
  by_cases c0 : s.toList = [104, 117, 108, 108]
  · rw [if_pos c0] at hr
    exact refApply_hull s xl xh yl yh r.1 r.2.1 r.2.2.1 r.2.2.2 w c0 (fun W => refOp_any 1 xl xh yl yh W h1 h2 h3 h4 al ah bl_ bh e1 e2 e3 e4 r hr)
  rw [if_neg c0] at hr
  by_cases c1 : s.toList = [109, 101, 101, 116]
  · rw [if_pos c1] at hr
    exact refApply_meet s xl xh yl yh r.1 r.2.1 r.2.2.1 r.2.2.2 w c1 (fun W => refOp_any 2 xl xh yl yh W h1 h2 h3 h4 al ah bl_ bh e1 e2 e3 e4 r hr)
  rw [if_neg c1] at hr
  by_cases c2 : s.toList = [43]
  · rw [if_pos c2] at hr
    exact refApply_add s xl xh yl yh r.1 r.2.1 r.2.2.1 r.2.2.2 w c2 (fun W => refOp_any 3 xl xh yl yh W h1 h2 h3 h4 al ah bl_ bh e1 e2 e3 e4 r hr)
  rw [if_neg c2] at hr
  by_cases c3 : s.toList = [45]
  · rw [if_pos c3] at hr
    exact refApply_sub s xl xh yl yh r.1 r.2.1 r.2.2.1 r.2.2.2 w c3 (fun W => refOp_any 4 xl xh yl yh W h1 h2 h3 h4 al ah bl_ bh e1 e2 e3 e4 r hr)
  rw [if_neg c3] at hr
  by_cases c4 : s.toList = [42]
  · rw [if_pos c4] at hr
    exact refApply_mul s xl xh yl yh r.1 r.2.1 r.2.2.1 r.2.2.2 w c4 (fun W => refOp_any 5 xl xh yl yh W h1 h2 h3 h4 al ah bl_ bh e1 e2 e3 e4 r hr)
  rw [if_neg c4] at hr
  by_cases c5 : s.toList = [47]
  · rw [if_pos c5] at hr
    exact refApply_div s xl xh yl yh r.1 r.2.1 r.2.2.1 r.2.2.2 w c5 (fun W => refOp_any 6 xl xh yl yh W h1 h2 h3 h4 al ah bl_ bh e1 e2 e3 e4 r hr)
  rw [if_neg c5] at hr
  subst hr
  exact refApply_else s xl xh yl yh w ⟨c0, c1, c2, c3, c4, c5⟩

theorem m_hull (A : Nat → Addr) {al ah bl_ bh : Nat} (i : Iv al ah) (j : Iv bl_ bh) (r : Nat × Nat × Nat × ByteArray) (hr : r = refOpN 1 (plT al) (plT ah) (plT bl_) (plT bh)) : ∀ w, Sents A w → Calls Tryz.prog 166 #[.agg #[.float .f64 al, .float .f64 ah], .agg #[.float .f64 bl_, .float .f64 bh]] w fun ev w' => OpR A w r.1 r.2.1 r.2.2.1 r.2.2.2 ev w' := by
  intro w _
  have hc := opCase_any A 1 i j r hr
  rcases hc with ⟨hk, -⟩ | ⟨hk, e3, es, h⟩ | ⟨hk, -⟩ | ⟨hk, -⟩ | ⟨hk, -⟩ | ⟨hk, -⟩ | ⟨hk, -⟩ | ⟨hk, -⟩ | ⟨h0, h1, h2, h3, h4, h5, h6, h7, -⟩ <;> first | (rw [e3, es]; exact hullAlways_any A al ah bl_ bh _ _ w h) | omega

theorem m_meet (A : Nat → Addr) {al ah bl_ bh : Nat} (i : Iv al ah) (j : Iv bl_ bh) (r : Nat × Nat × Nat × ByteArray) (hr : r = refOpN 2 (plT al) (plT ah) (plT bl_) (plT bh)) : ∀ w, Sents A w → Calls Tryz.prog 43 #[.agg #[.float .f64 al, .float .f64 ah], .agg #[.float .f64 bl_, .float .f64 bh]] w fun ev w' => OpR A w r.1 r.2.1 r.2.2.1 r.2.2.2 ev w' := by
  have hc := opCase_any A 2 i j r hr
  rcases hc with ⟨hk, -⟩ | ⟨hk, -⟩ | ⟨hk, h⟩ | ⟨hk, -⟩ | ⟨hk, -⟩ | ⟨hk, -⟩ | ⟨hk, -⟩ | ⟨hk, -⟩ | ⟨h0, h1, h2, h3, h4, h5, h6, h7, -⟩ <;> first | exact h | omega

theorem m_add (A : Nat → Addr) {al ah bl_ bh : Nat} (i : Iv al ah) (j : Iv bl_ bh) (r : Nat × Nat × Nat × ByteArray) (hr : r = refOpN 3 (plT al) (plT ah) (plT bl_) (plT bh)) : ∀ w, Sents A w → Calls Tryz.prog 44 #[.agg #[.float .f64 al, .float .f64 ah], .agg #[.float .f64 bl_, .float .f64 bh]] w fun ev w' => OpR A w r.1 r.2.1 r.2.2.1 r.2.2.2 ev w' := by
  have hc := opCase_any A 3 i j r hr
  rcases hc with ⟨hk, -⟩ | ⟨hk, -⟩ | ⟨hk, -⟩ | ⟨hk, h⟩ | ⟨hk, -⟩ | ⟨hk, -⟩ | ⟨hk, -⟩ | ⟨hk, -⟩ | ⟨h0, h1, h2, h3, h4, h5, h6, h7, -⟩ <;> first | exact h | omega

theorem m_sub (A : Nat → Addr) {al ah bl_ bh : Nat} (i : Iv al ah) (j : Iv bl_ bh) (r : Nat × Nat × Nat × ByteArray) (hr : r = refOpN 4 (plT al) (plT ah) (plT bl_) (plT bh)) : ∀ w, Sents A w → Calls Tryz.prog 45 #[.agg #[.float .f64 al, .float .f64 ah], .agg #[.float .f64 bl_, .float .f64 bh]] w fun ev w' => OpR A w r.1 r.2.1 r.2.2.1 r.2.2.2 ev w' := by
  have hc := opCase_any A 4 i j r hr
  rcases hc with ⟨hk, -⟩ | ⟨hk, -⟩ | ⟨hk, -⟩ | ⟨hk, -⟩ | ⟨hk, h⟩ | ⟨hk, -⟩ | ⟨hk, -⟩ | ⟨hk, -⟩ | ⟨h0, h1, h2, h3, h4, h5, h6, h7, -⟩ <;> first | exact h | omega

theorem m_mul (A : Nat → Addr) {al ah bl_ bh : Nat} (i : Iv al ah) (j : Iv bl_ bh) (r : Nat × Nat × Nat × ByteArray) (hr : r = refOpN 5 (plT al) (plT ah) (plT bl_) (plT bh)) : ∀ w, Sents A w → Calls Tryz.prog 46 #[.agg #[.float .f64 al, .float .f64 ah], .agg #[.float .f64 bl_, .float .f64 bh]] w fun ev w' => OpR A w r.1 r.2.1 r.2.2.1 r.2.2.2 ev w' := by
  have hc := opCase_any A 5 i j r hr
  rcases hc with ⟨hk, -⟩ | ⟨hk, -⟩ | ⟨hk, -⟩ | ⟨hk, -⟩ | ⟨hk, -⟩ | ⟨hk, h⟩ | ⟨hk, -⟩ | ⟨hk, -⟩ | ⟨h0, h1, h2, h3, h4, h5, h6, h7, -⟩ <;> first | exact h | omega

theorem m_div (A : Nat → Addr) {al ah bl_ bh : Nat} (i : Iv al ah) (j : Iv bl_ bh) (r : Nat × Nat × Nat × ByteArray) (hr : r = refOpN 6 (plT al) (plT ah) (plT bl_) (plT bh)) : ∀ w, Sents A w → Calls Tryz.prog 47 #[.agg #[.float .f64 al, .float .f64 ah], .agg #[.float .f64 bl_, .float .f64 bh]] w fun ev w' => OpR A w r.1 r.2.1 r.2.2.1 r.2.2.2 ev w' := by
  have hc := opCase_any A 6 i j r hr
  rcases hc with ⟨hk, -⟩ | ⟨hk, -⟩ | ⟨hk, -⟩ | ⟨hk, -⟩ | ⟨hk, -⟩ | ⟨hk, -⟩ | ⟨hk, h⟩ | ⟨hk, -⟩ | ⟨h0, h1, h2, h3, h4, h5, h6, h7, -⟩ <;> first | exact h | omega

theorem apply_any (A : Nat → Addr) (s : ByteArray) {al ah bl_ bh : Nat} (i : Iv al ah) (j : Iv bl_ bh) (r : Nat × Nat × Nat × ByteArray) (hr : r = applyN s (plT al) (plT ah) (plT bl_) (plT bh)) (w : World) (hS : Sents A w) :
    Calls Tryz.prog 71 #[.string s, .agg #[.float .f64 al, .float .f64 ah], .agg #[.float .f64 bl_, .float .f64 bh]] w fun ev w' => OpR A w r.1 r.2.1 r.2.2.1 r.2.2.2 ev w' := by
  unfold applyN at hr
  by_cases c0 : s.toList = [104, 117, 108, 108]
  · rw [if_pos c0] at hr
    exact apply_hull A s al ah bl_ bh _ _ _ _ w hS c0 (m_hull A i j r hr)
  rw [if_neg c0] at hr
  by_cases c1 : s.toList = [109, 101, 101, 116]
  · rw [if_pos c1] at hr
    exact apply_meet A s al ah bl_ bh _ _ _ _ w hS c1 (m_meet A i j r hr)
  rw [if_neg c1] at hr
  by_cases c2 : s.toList = [43]
  · rw [if_pos c2] at hr
    exact apply_add A s al ah bl_ bh _ _ _ _ w hS c2 (m_add A i j r hr)
  rw [if_neg c2] at hr
  by_cases c3 : s.toList = [45]
  · rw [if_pos c3] at hr
    exact apply_sub A s al ah bl_ bh _ _ _ _ w hS c3 (m_sub A i j r hr)
  rw [if_neg c3] at hr
  by_cases c4 : s.toList = [42]
  · rw [if_pos c4] at hr
    exact apply_mul A s al ah bl_ bh _ _ _ _ w hS c4 (m_mul A i j r hr)
  rw [if_neg c4] at hr
  by_cases c5 : s.toList = [47]
  · rw [if_pos c5] at hr
    exact apply_div A s al ah bl_ bh _ _ _ _ w hS c5 (m_div A i j r hr)
  rw [if_neg c5] at hr
  subst hr
  exact apply_else A s al ah bl_ bh w hS ⟨c2, c3, c4, c5, c0, c1⟩

/-- plain.Apply answers what the document says. -/
theorem plainApply_ref (A : Nat → Addr) (s : ByteArray) (xl xh yl yh : Nat) (h1 : xl < 18446744073709551616) (h2 : xh < 18446744073709551616) (h3 : yl < 18446744073709551616) (h4 : yh < 18446744073709551616) (w : World) (hS : Sents A w) (al ah bl_ bh : Nat) (e1 : al = (makeN xl xh).1) (e2 : ah = (makeN xl xh).2.1) (e3 : bl_ = (makeN yl yh).1) (e4 : bh = (makeN yl yh).2.1) (r : Nat × Nat × Nat × ByteArray) (hr : r = applyN s (plT al) (plT ah) (plT bl_) (plT bh)) :
    Calls Tryz.prog 30 #[.string s, .agg #[.int .u64 (xl : Int), .int .u64 (xh : Int)], .agg #[.int .u64 (yl : Int), .int .u64 (yh : Int)]] w fun e w' => e = .returned (.tuple #[.agg #[.int .u64 (r.1 : Int), .int .u64 (r.2.1 : Int)], .int .i64 (r.2.2.1 : Int), .string r.2.2.2]) ∧ Below w.heap.size w w' := by
  have iA : Iv al ah := by rw [e1, e2]; exact made_iv xl xh h1 h2
  have iB : Iv bl_ bh := by rw [e3, e4]; exact made_iv yl yh h3 h4
  refine plainApply_any A s xl xh yl yh al ah bl_ bh _ _ _ _ w hS ?_ ?_ (apply_any A s iA iB r hr)
  · intro w hS; rw [e1, e2]; exact made_any A xl xh w h1 h2 hS
  · intro w hS; rw [e3, e4]; exact made_any A yl yh w h3 h4 hS
end Go.Proofs.YtonhpkigoplmaaaGreatDoor
namespace Go.Proofs.YtonhpkigoplmaaaGreatDoor
open Go.RowKit

theorem applies_any (A : Nat → Addr) (z : Script) (ao : Option Addr) (n c : Nat) (w : World) (hn : n ≤ 1466015503701) (hS : Sents A w)
    (hz : n = 0 ∨ ∃ g off, ao = some ⟨g, off, none⟩ ∧ g < w.heap.size ∧ z.at w g off n) (hx : ∀ i, i < n → z.xl i < 18446744073709551616 ∧ z.xh i < 18446744073709551616 ∧ z.yl i < 18446744073709551616 ∧ z.yh i < 18446744073709551616) :
    Calls Tryz.prog 5 #[.slice ao n c] w fun e w' => e = .returned (.bool true) ∧ Below w.heap.size w w' := by
  have HU := upto_any A z ao n c 3 3 w hn hS hz (fun i hi h1 h2 W hW => by
    have hk : z.k i = 3 := by omega
    unfold Script.val
    rw [hk]
    obtain ⟨x1, x2, x3, x4⟩ := hx i hi
    exact plays_apply A _ _ _ _ _ _ _ _ _ _ _ _ _ _ W hW (fun W hS => plainApply_ref A _ _ _ _ _ x1 x2 x3 x4 W hS _ _ _ _ rfl rfl rfl rfl _ rfl) (fun W => refApply_any _ _ _ _ _ x1 x2 x3 x4 W _ _ _ _ rfl rfl rfl rfl _ rfl))
  clear hz hx hS hn
  have HU : Hid (Calls Tryz.prog 14 #[.slice ao n c, .int .i64 3, .int .i64 3] w fun e w' => e = .returned (.int .i64 (-1)) ∧ Below w.heap.size w w') := HU
  go_enter Tryz.func5, Tryz.ntmps5
  go_wp2_with fail
  refine Calls.mono HU.out ?_
  rintro e w1 ⟨rfl, hb1⟩
  clear HU
  go_wp2
  go_ret
  exact ⟨rfl, hb1⟩
end Go.Proofs.YtonhpkigoplmaaaGreatDoor
namespace Go.Proofs.YtonhpkigoplmaaaGreatDoor
open Go.ChangeShapes Go.WideShapes Go.ChangeAt Go.RowKit

theorem applies_k_own : ownKnob Tryz.prog.godebug = none := by kernel_rfl
theorem applies_k_laidOut : laidOutB Tryz.prog = true := by kernel_rfl
theorem applies_k_bytesOp : Tryz.prog.bytesOf 31 = 96 := by kernel_rfl
theorem applies_k_readable : Tryz.prog.readableRec 22 = true := by kernel_rfl

theorem applies_door_met (os : Os) (args : Array Value) : laidMetH Tryz.prog Rows.appliesRow.laid ((World.doorLaid Tryz.prog 187 os).forCall (fun _ _ => 0) ⟨#[], args, []⟩).memory :=
  laidMetH_of_parts3 (fuel := 8) (laidMet_of_run' 8 (by kernel_rfl) (by kernel_rfl)) (by kernel_rfl) (by kernel_rfl)

theorem applies_laid {W : World} (h : laidMetH Tryz.prog Rows.appliesRow.laid W) : ∃ A, Sents A W := by
  have h' : laidMet Tryz.prog sentsL W ∧ handlesMet Tryz.prog handleL W := h
  exact sents_of_laid h'.1 h'.2

set_option maxRecDepth 100000 in
theorem applies_lifted (os : Os) (started : os.Started) (H : Type) (enc : TypeId × Value → H) :
    ReturnsInHanded {} Tryz.checked os 5 .any (fun w args => (Rows.appliesSpec.pre enc Tryz.prog Tryz.f5 [] false w args ∧ laidMetH Tryz.prog Rows.appliesRow.laid w) ∧ sizedMet enc Tryz.prog Tryz.f5 (OpenSpec.ofChange Rows.appliesSpec) false w args)
      (Rows.appliesSpec.post enc Tryz.prog Tryz.f5 false true false false) := by
  refine returnsInHanded_of_change_and (C := Tryz.checked) (X := fun w _ => laidMetH Tryz.prog Rows.appliesRow.laid w) (fun _ _ _ hh h => h.of_heap hh) applies_k_own started (by kernel_rfl) Tryz.func5
    (ChangeSpec.witness_shaped (enc := enc) (C := Tryz.checked) (os := os) (X := fun w _ => laidMetH Tryz.prog Rows.appliesRow.laid w) false (World.doorLaid Tryz.prog 187 os) #[.slice none 0 0] 8 rfl (World.shaped_of_RefB (by kernel_rfl) (by kernel_rfl)) (by kernel_rfl) (by kernel_rfl) (by kernel_rfl) (applies_door_met os _)) ?_
  intro W base args ds gs before hval0 hW _ hsz0 hL _
  have hval : ∀ (j : Nat) t v, Tryz.f5.params[j]? = some t → args[j]? = some v → Value.okWide Tryz.prog W .any base t v := hval0
  have hW' := hW
  obtain ⟨p, q, hA0, hV, rfl, hfz, hnd⟩ := hW
  have hA : DataW.TrodAll enc Tryz.prog W 0 (fun _ => true) true Tryz.f5.params.toList args.toList ds p := hA0
  have hsz : (DataW.weightsEach Tryz.prog (Tryz.f5.params.toList ++ Rows.appliesSpec.plain.varTypes Tryz.prog) (ds ++ gs)).all (· ≤ reachBytes) = true := hsz0
  rw [Tryz.params5] at hA hval hsz
  obtain ⟨v0, d0, hargs, rfl, h0⟩ := trodAll_one hA
  obtain ⟨rfl, rfl⟩ := trodVars_none hV
  obtain ⟨A, hS⟩ := applies_laid hL
  obtain rfl : args = #[v0] := by
    obtain ⟨l⟩ := args
    simpa using hargs
  have hlt : ∀ x ∈ p, x.block < W.heap.size := fun x hx => by simpa using hW'.lt x (by simpa using hx)
  have h0k := h0
  obtain ⟨fuel, hf⟩ := h0
  obtain ⟨z, ao, n, c, rfl, hz, hx, hd⟩ := script_of hf (okWide_slice Tryz.underlying22 (hval 0 22 v0 rfl rfl))
  have hn : n ≤ 1466015503701 := by
    rcases hd with ⟨_, h⟩ | ⟨es, sp, rfl, hlen⟩
    · omega
    · have := sized_slice hsz (j := 0) (t := 22) (e := 31) rfl rfl Tryz.underlying22
      rw [applies_k_bytesOp] at this
      simp only [reachBytes] at this
      omega
  refine (applies_any A z ao n c W hn hS hz (fun i hi => ⟨(hx i hi).1.1, (hx i hi).1.2, (hx i hi).2.1.1, (hx i hi).2.1.2⟩)).mono fun e W' ⟨he, hb⟩ => ?_
  subst he
  have e1 : Rows.appliesSpec.fn H ([d0] ++ []) = { results := [.lit (.bool true)], args := [d0] } := by simp [Rows.appliesSpec]
  refine ⟨_, rfl, _, _, _, [], p, [], hW', ?_, ?_, ?_, hb.frame _, fun h => by cases h⟩
  · rw [e1]; exact trodAll_mk1 (shut_bool Tryz.underlying4 true)
  · rw [e1]; exact trodAll_mk1 (Below.trod applies_k_laidOut applies_k_readable (of_decide_eq_true (by kernel_rfl)) h0k hb hlt)
  · rw [e1]; rfl

theorem applies_holds : Rows.AppliesSaid :=
  OpenClaim.holds_of_wide 5 Tryz.f5 rfl rfl rfl rfl rfl rfl rfl ⟨rfl, rfl, rfl, rfl, rfl⟩ rfl rfl rfl rfl rfl (by kernel_rfl) Tryz.func5 (by kernel_rfl)
    (of_decide_eq_true (by kernel_rfl)) (by unfold Func.isWrapper; rw [if_neg (of_decide_eq_false (by kernel_rfl))]; exact ⟨rfl, rfl⟩)
    (fun os started H enc _ => applies_lifted os started H enc)

theorem applies_card : Rows.AppliesCardSaid :=
  Claim7.holds_tied_plain_at .later [] _ _ _ _ applies_holds (fun _ h => by cases h) (by kernel_rfl) (fun _ h => by cases h) applies_row_tie rfl ⟨rfl, rfl⟩ (by kernel_rfl) rfl
    (fun f fn hf hfn => by
      obtain rfl : f = 5 := Option.some.inj ((show Tryz.prog.funcNamed "enclose/encloselaw.Applies" = some 5 by kernel_rfl).symm.trans hf) |>.symm
      obtain rfl : fn = Tryz.f5 := (Option.some.inj (Tryz.func5.symm.trans hfn)).symm
      exact ⟨by kernel_rfl, fun j t ht => by
        rw [Tryz.params5] at ht
        have h3 : t = 22 := by
          rcases j with _ | j
          · simpa using ht.symm
          · simp at ht
        subst h3
        exact (show Tryz.prog.wantsStandIn 22 = false by kernel_rfl)⟩)
    (by kernel_rfl)
#print axioms applies_card
end Go.Proofs.YtonhpkigoplmaaaGreatDoor
