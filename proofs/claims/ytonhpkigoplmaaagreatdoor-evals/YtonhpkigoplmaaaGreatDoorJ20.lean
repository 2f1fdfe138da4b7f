/-
  OpF, MulF, CorQ.
-/
import Derived.Test.YtonhpkigoplmaaaGreatDoorJ19
import Derived.Deep.DeepCutAuto
namespace Go.Proofs.YtonhpkigoplmaaaGreatDoor
open Go.RowKit Go.Extern Ieee
attribute [local go_sem] run_store_float

/-- What the method that belongs to k answers. -/
def OpCase (A : Nat → Addr) (k : Int) (al ah bl bh : Nat) (r1 r2 r3 : Nat) (rs : ByteArray) : Prop :=
  (k = 0 ∧ r3 = 0 ∧ rs = ⟨#[]⟩ ∧ ∀ w, Calls Tryz.prog 41 #[.agg #[.float .f64 al, .float .f64 ah]] w fun ev w' => ev = .returned (.agg #[.float .f64 r1, .float .f64 r2]) ∧ Below w.heap.size w w') ∨
  (k = 1 ∧ r3 = 0 ∧ rs = ⟨#[]⟩ ∧ ∀ w, Calls Tryz.prog 42 #[.agg #[.float .f64 al, .float .f64 ah], .agg #[.float .f64 bl, .float .f64 bh]] w fun ev w' => ev = .returned (.agg #[.float .f64 r1, .float .f64 r2]) ∧ Below w.heap.size w w') ∨
  (k = 2 ∧ ∀ w, Sents A w → Calls Tryz.prog 43 #[.agg #[.float .f64 al, .float .f64 ah], .agg #[.float .f64 bl, .float .f64 bh]] w fun ev w' => OpR A w r1 r2 r3 rs ev w') ∨
  (k = 3 ∧ ∀ w, Sents A w → Calls Tryz.prog 44 #[.agg #[.float .f64 al, .float .f64 ah], .agg #[.float .f64 bl, .float .f64 bh]] w fun ev w' => OpR A w r1 r2 r3 rs ev w') ∨
  (k = 4 ∧ ∀ w, Sents A w → Calls Tryz.prog 45 #[.agg #[.float .f64 al, .float .f64 ah], .agg #[.float .f64 bl, .float .f64 bh]] w fun ev w' => OpR A w r1 r2 r3 rs ev w') ∨
  (k = 5 ∧ ∀ w, Sents A w → Calls Tryz.prog 46 #[.agg #[.float .f64 al, .float .f64 ah], .agg #[.float .f64 bl, .float .f64 bh]] w fun ev w' => OpR A w r1 r2 r3 rs ev w') ∨
  (k = 6 ∧ ∀ w, Sents A w → Calls Tryz.prog 47 #[.agg #[.float .f64 al, .float .f64 ah], .agg #[.float .f64 bl, .float .f64 bh]] w fun ev w' => OpR A w r1 r2 r3 rs ev w') ∨
  (k = 7 ∧ ∀ w, Sents A w → Calls Tryz.prog 48 #[.agg #[.float .f64 al, .float .f64 ah]] w fun ev w' => OpR A w r1 r2 r3 rs ev w') ∨
  (k ≠ 0 ∧ k ≠ 1 ∧ k ≠ 2 ∧ k ≠ 3 ∧ k ≠ 4 ∧ k ≠ 5 ∧ k ≠ 6 ∧ k ≠ 7 ∧ r1 = al ∧ r2 = ah ∧ r3 = 0 ∧ rs = ⟨#[]⟩)

/-- The boxes of plain.Op. -/
structure PSt (w W : World) (g2 n0 : Nat) (a b c d : Value) : Prop where
  k0 : W.heap[w.heap.size]? = some (.cells #[a, b] 33 (0, 0))
  k1 : W.heap[w.heap.size + 1]? = some (.cells #[c, d] 33 (0, 0))
  k2 : W.heap[g2]? = some (.cells #[.int .u64 0, .int .u64 0] 33 (0, 0))
  hb : Below w.heap.size w W
  sz : n0 ≤ W.heap.size
  h0 : w.heap.size < n0
  h1 : w.heap.size + 1 < n0
  h2 : g2 < n0
  l2 : w.heap.size ≤ g2
theorem PSt.below {w W W' : World} {g2 n0 : Nat} {a b c d : Value} (m : PSt w W g2 n0 a b c d) (hb : Below W.heap.size W W') : PSt w W' g2 n0 a b c d :=
  ⟨blk_below m.k0 hb, blk_below m.k1 hb, blk_below m.k2 hb, m.hb.trans (hb.mono m.hb.size), Nat.le_trans m.sz hb.size, m.h0, m.h1, m.h2, m.l2⟩
theorem PSt.alloc {w W : World} {g2 n0 : Nat} {a b c d : Value} (m : PSt w W g2 n0 a b c d) (o : Obj) : PSt w (W.alloc o) g2 n0 a b c d := m.below ((Below.refl _ _).alloc (Nat.le_refl _) o)
theorem PSt.drew {w W : World} {g2 n0 : Nat} {a b c d : Value} (m : PSt w W g2 n0 a b c d) : PSt w W.drew g2 n0 a b c d := ⟨m.k0, m.k1, m.k2, m.hb.drew, m.sz, m.h0, m.h1, m.h2, m.l2⟩
theorem PSt.cells {w W : World} {g2 n0 : Nat} {a b c d : Value} (m : PSt w W g2 n0 a b c d) : W.cell? ⟨w.heap.size, 0, none⟩ = some a ∧ W.cell? ⟨w.heap.size, 1, none⟩ = some b ∧ W.cell? ⟨w.heap.size + 1, 0, none⟩ = some c ∧ W.cell? ⟨w.heap.size + 1, 1, none⟩ = some d := by
  obtain ⟨x0, x1, -, -⟩ := blk2 m.k0
  obtain ⟨y0, y1, -, -⟩ := blk2 m.k1
  exact ⟨x0, x1, y0, y1⟩

theorem PSt.set2 {w W : World} {g2 n0 g : Nat} {a b c d : Value} (m : PSt w W g2 n0 a b c d) (h : n0 ≤ g) (x y : Value) : PSt w ((W.setCell ⟨g, 0, none⟩ x).setCell ⟨g, 1, none⟩ y) g2 n0 a b c d := by
  have e0 : w.heap.size ≠ g := by have := m.h0; omega
  have e1 : w.heap.size + 1 ≠ g := by have := m.h1; omega
  have e2 : g2 ≠ g := by have := m.h2; omega
  have e3 : w.heap.size ≤ g := by have := m.h0; omega
  exact ⟨blk_set_ne (blk_set_ne m.k0 e0) e0, blk_set_ne (blk_set_ne m.k1 e1) e1, blk_set_ne (blk_set_ne m.k2 e2) e2, (m.hb.setCell (by exact e3) _).setCell (by exact e3) _, by simp only [World.size_setCell]; exact m.sz, m.h0, m.h1, m.h2, m.l2⟩

/-- A new box of an interval, behind the first n0. -/
def IBox (n0 : Nat) (W : World) (g x y : Nat) : Prop := W.heap[g]? = some (.cells #[.float .f64 x, .float .f64 y] 67 (0, 0)) ∧ n0 ≤ g
theorem IBox.below {n0 g x y : Nat} {W W' : World} (h : IBox n0 W g x y) (hb : Below W.heap.size W W') : IBox n0 W' g x y := ⟨blk_below h.1 hb, h.2⟩
theorem IBox.alloc {n0 g x y : Nat} {W : World} (h : IBox n0 W g x y) (o : Obj) : IBox n0 (W.alloc o) g x y := ⟨blk_old h.1 o, h.2⟩
theorem IBox.new {n0 x y : Nat} {W : World} (h : n0 ≤ W.heap.size) : IBox n0 (W.alloc (Obj.cells #[.float .f64 x, .float .f64 y] 67)) W.heap.size x y := ⟨blk_new W _, h⟩
theorem IBox.newSet {n0 g x y : Nat} {W : World} {u v : Value} (h : n0 ≤ W.heap.size) : IBox n0 (((W.setCell ⟨g, 0, none⟩ u).setCell ⟨g, 1, none⟩ v).alloc (Obj.cells #[.float .f64 x, .float .f64 y] 67)) W.heap.size x y := by
  have hz : IBox n0 (((W.setCell ⟨g, 0, none⟩ u).setCell ⟨g, 1, none⟩ v).alloc (Obj.cells #[.float .f64 x, .float .f64 y] 67)) _ x y := IBox.new (by simp only [World.size_setCell]; exact h)
  simp only [World.size_setCell] at hz
  exact hz
theorem IBox.drew {n0 g x y : Nat} {W : World} (h : IBox n0 W g x y) : IBox n0 W.drew g x y := h
theorem IBox.le {n0 g x y : Nat} {W : World} (h : IBox n0 W g x y) : n0 ≤ g := h.2
theorem IBox.same {n0 g x' y' : Nat} {W : World} (h : IBox n0 W g x' y') (x y : Nat) : IBox n0 ((W.setCell ⟨g, 0, none⟩ (.float .f64 x)).setCell ⟨g, 1, none⟩ (.float .f64 y)) g x y := ⟨blk_store2 h.1, h.2⟩
theorem IBox.ne {n0 g g' x y : Nat} {W : World} (h : IBox n0 W g x y) (hne : g ≠ g') (u v : Value) : IBox n0 ((W.setCell ⟨g', 0, none⟩ u).setCell ⟨g', 1, none⟩ v) g x y := ⟨blk_set_ne (blk_set_ne h.1 hne) hne, h.2⟩

set_option maxRecDepth 100000 in
set_option maxHeartbeats 8000000 in
theorem plainOp_any (A : Nat → Addr) (k : Int) (xl xh yl yh al ah bl bh r1 r2 r3 : Nat) (rs : ByteArray) (w : World) (hS : Sents A w)
    (hx : ∀ w, Sents A w → Calls Tryz.prog 40 #[.agg #[.int .u64 (xl : Int), .int .u64 (xh : Int)]] w fun e w' => e = .returned (.agg #[.float .f64 al, .float .f64 ah]) ∧ Below w.heap.size w w')
    (hy : ∀ w, Sents A w → Calls Tryz.prog 40 #[.agg #[.int .u64 (yl : Int), .int .u64 (yh : Int)]] w fun e w' => e = .returned (.agg #[.float .f64 bl, .float .f64 bh]) ∧ Below w.heap.size w w')
    (h : OpCase A k al ah bl bh r1 r2 r3 rs) :
    Calls Tryz.prog 21 #[.int .i64 k, .agg #[.int .u64 (xl : Int), .int .u64 (xh : Int)], .agg #[.int .u64 (yl : Int), .int .u64 (yh : Int)]] w fun e w' => e = .returned (.tuple #[.agg #[.int .u64 (r1 : Int), .int .u64 (r2 : Int)], .int .i64 (r3 : Int), .string rs]) ∧ Below w.heap.size w w' := by
  have HX : Hid (∀ W, Below w.heap.size w W → Calls Tryz.prog 40 #[.agg #[.int .u64 (xl : Int), .int .u64 (xh : Int)]] W fun e w' => e = .returned (.agg #[.float .f64 al, .float .f64 ah]) ∧ Below W.heap.size W w') := fun W hb => hx W (hS.below hb (Nat.le_refl _))
  have HY : Hid (∀ W, Below w.heap.size w W → Calls Tryz.prog 40 #[.agg #[.int .u64 (yl : Int), .int .u64 (yh : Int)]] W fun e w' => e = .returned (.agg #[.float .f64 bl, .float .f64 bh]) ∧ Below W.heap.size W w') := fun W hb => hy W (hS.below hb (Nat.le_refl _))
  have HS : Hid (Sents A w) := hS
  have HC : Hid (OpCase A k al ah bl bh r1 r2 r3 rs) := h
  have HBX : Hid (∀ W : World, Calls Tryz.prog 50 #[.agg #[.float .f64 r1, .float .f64 r2]] W fun e w' => e = .returned (.agg #[.int .u64 (r1 : Int), .int .u64 (r2 : Int)]) ∧ Below W.heap.size W w') := fun W => box_any r1 r2 W
  have HCD : Hid (∀ (W : World) (v : Value), Below w.heap.size w W → ErrIs A W v r3 rs → Calls Tryz.prog 49 #[v] W fun e w' => e = .returned (.tuple #[.int .i64 (r3 : Int), .string rs]) ∧ Below W.heap.size W w') := fun W v hb he => code_any A v r3 rs W (hS.below hb (Nat.le_refl _)) he
  clear hx hy hS h
  go_enter Tryz.func21, Tryz.ntmps21
  go_wp2_with fail
  have m0 : Hid (PSt w (((w.alloc (Obj.cells #[.int .u64 (xl : Int), .int .u64 (xh : Int)] 33)).alloc (Obj.cells #[.int .u64 (yl : Int), .int .u64 (yh : Int)] 33)).alloc (Obj.cells #[.int .u64 0, .int .u64 0] 33)) (w.heap.size + 1 + 1) (w.heap.size + 1 + 1 + 1) (.int .u64 (xl : Int)) (.int .u64 (xh : Int)) (.int .u64 (yl : Int)) (.int .u64 (yh : Int))) := by
    have B0 := blk_old (blk_old (blk_new w (Obj.cells #[.int .u64 (xl : Int), .int .u64 (xh : Int)] 33)) (Obj.cells #[.int .u64 (yl : Int), .int .u64 (yh : Int)] 33)) (Obj.cells #[.int .u64 0, .int .u64 0] 33)
    have B1 := blk_old (blk_new (w.alloc (Obj.cells #[.int .u64 (xl : Int), .int .u64 (xh : Int)] 33)) (Obj.cells #[.int .u64 (yl : Int), .int .u64 (yh : Int)] 33)) (Obj.cells #[.int .u64 0, .int .u64 0] 33)
    have B2 := blk_new ((w.alloc (Obj.cells #[.int .u64 (xl : Int), .int .u64 (xh : Int)] 33)).alloc (Obj.cells #[.int .u64 (yl : Int), .int .u64 (yh : Int)] 33)) (Obj.cells #[.int .u64 0, .int .u64 0] 33)
    simp only [World.size_alloc] at B1 B2
    exact ⟨B0, B1, B2, (((Below.refl _ _).alloc (Nat.le_refl _) _).alloc (by simp) _).alloc (by simp; omega) _, by simp, by omega, by omega, by omega, by omega⟩
  generalize (((w.alloc (Obj.cells #[.int .u64 (xl : Int), .int .u64 (xh : Int)] 33)).alloc (Obj.cells #[.int .u64 (yl : Int), .int .u64 (yh : Int)] 33)).alloc (Obj.cells #[.int .u64 0, .int .u64 0] 33)) = W2 at *
  generalize hn0 : w.heap.size + 1 + 1 + 1 = n0 at *
  generalize hg2 : w.heap.size + 1 + 1 = g2 at *
  go_cut [9, 10] (fun s9 s10 wc => ∃ ga gb, s9 = .pointer (some ⟨ga, 0, none⟩) ∧ s10 = .pointer (some ⟨gb, 0, none⟩) ∧ PSt w wc g2 n0 (.int .u64 (xl : Int)) (.int .u64 (xh : Int)) (.int .u64 (yl : Int)) (.int .u64 (yh : Int)) ∧ IBox n0 wc ga al ah ∧ IBox n0 wc gb bl bh)
  case first =>
    clear hn0 hg2
    have iN : Hid (PSt w W2.drew g2 n0 (.int .u64 (xl : Int)) (.int .u64 (xh : Int)) (.int .u64 (yl : Int)) (.int .u64 (yh : Int))) := m0.out.drew
    go_region_held3 (fun W => W.cell? ⟨w.heap.size, 0, none⟩ = some (.int .u64 (xl : Int)) ∧ W.cell? ⟨w.heap.size, 1, none⟩ = some (.int .u64 (xh : Int)) ∧ W.cell? ⟨w.heap.size + 1, 0, none⟩ = some (.int .u64 (yl : Int)) ∧ W.cell? ⟨w.heap.size + 1, 1, none⟩ = some (.int .u64 (yh : Int))) (first | with_reducible exact iN.out.cells | with_reducible exact (m0.out.alloc _).drew.cells | with_reducible exact ((m0.out.alloc _).alloc _).drew.cells | with_reducible exact (iN.out.alloc _).cells | with_reducible exact ((iN.out.alloc _).alloc _).cells | with_reducible exact (iN.out.set2 (by first | exact y0.out.le | exact y1.out.le | exact z0.out.le | exact z1.out.le) _ _).cells | with_reducible exact ((iN.out.set2 (by first | exact y0.out.le | exact y1.out.le | exact z0.out.le | exact z1.out.le) _ _).alloc _).cells | with_reducible exact (((iN.out.set2 (by first | exact y0.out.le | exact y1.out.le | exact z0.out.le | exact z1.out.le) _ _).alloc _).alloc _).cells | with_reducible exact ((iN.out.set2 (by first | exact y0.out.le | exact y1.out.le | exact z0.out.le | exact z1.out.le) _ _).set2 (by first | exact y0.out.le | exact y1.out.le | exact z0.out.le | exact z1.out.le) _ _).cells | with_reducible exact (((iN.out.set2 (by first | exact y0.out.le | exact y1.out.le | exact z0.out.le | exact z1.out.le) _ _).set2 (by first | exact y0.out.le | exact y1.out.le | exact z0.out.le | exact z1.out.le) _ _).alloc _).cells | with_reducible exact ((((iN.out.set2 (by first | exact y0.out.le | exact y1.out.le | exact z0.out.le | exact z1.out.le) _ _).set2 (by first | exact y0.out.le | exact y1.out.le | exact z0.out.le | exact z1.out.le) _ _).alloc _).alloc _).cells)
      (first
        | (go_at_call 40; with_reducible (refine Calls.mono (HX.out _ ?_) ?_); (with_reducible exact iN.out.hb); rintro e v1 ⟨rfl, hbk⟩
           have iN : Hid (PSt w v1 g2 n0 _ _ _ _) := iN.out.below hbk
           clear hbk)
        | (go_at_call 40; with_reducible (refine Calls.mono (HX.out _ ?_) ?_); (with_reducible exact (m0.out.alloc _).drew.hb); rintro e v1 ⟨rfl, hbk⟩
           have y0 : Hid (IBox n0 v1 W2.heap.size 0 0) := (IBox.new m0.out.sz).drew.below hbk
           have iN : Hid (PSt w v1 g2 n0 _ _ _ _) := (m0.out.alloc _).drew.below hbk
           clear hbk
           have ly0 := lt_of_row y0.out.1)
        | (go_at_call 40; with_reducible (refine Calls.mono (HX.out _ ?_) ?_); (with_reducible exact ((m0.out.alloc _).alloc _).drew.hb); rintro e v1 ⟨rfl, hbk⟩
           have y0 : Hid (IBox n0 v1 W2.heap.size 0 0) := ((IBox.new m0.out.sz).alloc _).drew.below hbk
           have y1 : Hid (IBox n0 v1 (W2.heap.size + 1) 0 0) := by
             have hz := (IBox.new (x := 0) (y := 0) (m0.out.alloc (Obj.cells #[.float .f64 0, .float .f64 0] 67)).sz).drew.below hbk
             simp only [World.size_alloc] at hz
             exact hz
           have iN : Hid (PSt w v1 g2 n0 _ _ _ _) := ((m0.out.alloc _).alloc _).drew.below hbk
           clear hbk
           have ly0 := lt_of_row y0.out.1
           have ly1 := lt_of_row y1.out.1)
        | (go_at_call 40; with_reducible (refine Calls.mono (HY.out _ ?_) ?_); (with_reducible exact iN.out.hb); rintro e v2 ⟨rfl, hbk⟩
           try (have y0 : Hid (IBox n0 v2 W2.heap.size 0 0) := y0.out.below hbk)
           try (have y1 : Hid (IBox n0 v2 (W2.heap.size + 1) 0 0) := y1.out.below hbk)
           have iN : Hid (PSt w v2 g2 n0 _ _ _ _) := iN.out.below hbk
           clear hbk
           try (obtain ⟨a0, a1, a2, a3⟩ := blk2 y0.out.1; have ay := lt_of_row y0.out.1)
           try (obtain ⟨b0, b1, b2, b3⟩ := blk2 y1.out.1; have by_ := lt_of_row y1.out.1)
           try (obtain ⟨c0, c1, c2, c3⟩ := blk2 z0.out.1; have cy := lt_of_row z0.out.1)
           try (obtain ⟨d0, d1, d2, d3⟩ := blk2 z1.out.1; have dy := lt_of_row z1.out.1))
        | (go_at_call 40; with_reducible (refine Calls.mono (HY.out _ ?_) ?_); (with_reducible exact (iN.out.alloc _).hb); rintro e v2 ⟨rfl, hbk⟩
           try (have y0 : Hid (IBox n0 v2 W2.heap.size 0 0) := (y0.out.alloc _).below hbk)
           try (have y1 : Hid (IBox n0 v2 (W2.heap.size + 1) 0 0) := (y1.out.alloc _).below hbk)
           have z0 : Hid (IBox n0 v2 v1.heap.size 0 0) := (IBox.new iN.out.sz).below hbk
           have iN : Hid (PSt w v2 g2 n0 _ _ _ _) := (iN.out.alloc _).below hbk
           clear hbk
           try (obtain ⟨a0, a1, a2, a3⟩ := blk2 y0.out.1; have ay := lt_of_row y0.out.1)
           try (obtain ⟨b0, b1, b2, b3⟩ := blk2 y1.out.1; have by_ := lt_of_row y1.out.1)
           try (obtain ⟨c0, c1, c2, c3⟩ := blk2 z0.out.1; have cy := lt_of_row z0.out.1)
           try (obtain ⟨d0, d1, d2, d3⟩ := blk2 z1.out.1; have dy := lt_of_row z1.out.1))
        | (go_at_call 40; with_reducible (refine Calls.mono (HY.out _ ?_) ?_); (with_reducible exact ((iN.out.alloc _).alloc _).hb); rintro e v2 ⟨rfl, hbk⟩
           try (have y0 : Hid (IBox n0 v2 W2.heap.size 0 0) := ((y0.out.alloc _).alloc _).below hbk)
           try (have y1 : Hid (IBox n0 v2 (W2.heap.size + 1) 0 0) := ((y1.out.alloc _).alloc _).below hbk)
           have z0 : Hid (IBox n0 v2 v1.heap.size 0 0) := ((IBox.new iN.out.sz).alloc _).below hbk
           have z1 : Hid (IBox n0 v2 (v1.heap.size + 1) 0 0) := by
             have hz := (IBox.new (x := 0) (y := 0) (iN.out.alloc (Obj.cells #[.float .f64 0, .float .f64 0] 67)).sz).below hbk
             simp only [World.size_alloc] at hz
             exact hz
           have iN : Hid (PSt w v2 g2 n0 _ _ _ _) := ((iN.out.alloc _).alloc _).below hbk
           clear hbk
           try (obtain ⟨a0, a1, a2, a3⟩ := blk2 y0.out.1; have ay := lt_of_row y0.out.1)
           try (obtain ⟨b0, b1, b2, b3⟩ := blk2 y1.out.1; have by_ := lt_of_row y1.out.1)
           try (obtain ⟨c0, c1, c2, c3⟩ := blk2 z0.out.1; have cy := lt_of_row z0.out.1)
           try (obtain ⟨d0, d1, d2, d3⟩ := blk2 z1.out.1; have dy := lt_of_row z1.out.1)))
    all_goals (go_wp2_with fail; go_meet; refine ⟨_, _, rfl, rfl, ?_, ?_, ?_⟩)
    all_goals first | (first | with_reducible exact iN.out | with_reducible exact (iN.out.alloc _) | with_reducible exact ((iN.out.alloc _).alloc _) | with_reducible exact (iN.out.set2 (by first | exact y0.out.le | exact y1.out.le | exact z0.out.le | exact z1.out.le) _ _) | with_reducible exact ((iN.out.set2 (by first | exact y0.out.le | exact y1.out.le | exact z0.out.le | exact z1.out.le) _ _).alloc _) | with_reducible exact (((iN.out.set2 (by first | exact y0.out.le | exact y1.out.le | exact z0.out.le | exact z1.out.le) _ _).alloc _).alloc _) | with_reducible exact ((iN.out.set2 (by first | exact y0.out.le | exact y1.out.le | exact z0.out.le | exact z1.out.le) _ _).set2 (by first | exact y0.out.le | exact y1.out.le | exact z0.out.le | exact z1.out.le) _ _) | with_reducible exact (((iN.out.set2 (by first | exact y0.out.le | exact y1.out.le | exact z0.out.le | exact z1.out.le) _ _).set2 (by first | exact y0.out.le | exact y1.out.le | exact z0.out.le | exact z1.out.le) _ _).alloc _) | with_reducible exact ((((iN.out.set2 (by first | exact y0.out.le | exact y1.out.le | exact z0.out.le | exact z1.out.le) _ _).set2 (by first | exact y0.out.le | exact y1.out.le | exact z0.out.le | exact z1.out.le) _ _).alloc _).alloc _)) | (first | with_reducible exact (y0.out.same _ _) | with_reducible exact ((y0.out.same _ _).alloc _) | with_reducible exact (((y0.out.same _ _).alloc _).alloc _) | with_reducible exact ((y0.out.same _ _).ne (by omega) _ _) | with_reducible exact (((y0.out.same _ _).ne (by omega) _ _).alloc _) | with_reducible exact ((((y0.out.same _ _).ne (by omega) _ _).alloc _).alloc _) | with_reducible exact ((y0.out.ne (by omega) _ _).same _ _) | with_reducible exact (((y0.out.ne (by omega) _ _).same _ _).alloc _) | with_reducible exact ((((y0.out.ne (by omega) _ _).same _ _).alloc _).alloc _) | with_reducible exact (y1.out.same _ _) | with_reducible exact ((y1.out.same _ _).alloc _) | with_reducible exact (((y1.out.same _ _).alloc _).alloc _) | with_reducible exact ((y1.out.same _ _).ne (by omega) _ _) | with_reducible exact (((y1.out.same _ _).ne (by omega) _ _).alloc _) | with_reducible exact ((((y1.out.same _ _).ne (by omega) _ _).alloc _).alloc _) | with_reducible exact ((y1.out.ne (by omega) _ _).same _ _) | with_reducible exact (((y1.out.ne (by omega) _ _).same _ _).alloc _) | with_reducible exact ((((y1.out.ne (by omega) _ _).same _ _).alloc _).alloc _) | with_reducible exact (z0.out.same _ _) | with_reducible exact ((z0.out.same _ _).alloc _) | with_reducible exact (((z0.out.same _ _).alloc _).alloc _) | with_reducible exact ((z0.out.same _ _).ne (by omega) _ _) | with_reducible exact (((z0.out.same _ _).ne (by omega) _ _).alloc _) | with_reducible exact ((((z0.out.same _ _).ne (by omega) _ _).alloc _).alloc _) | with_reducible exact ((z0.out.ne (by omega) _ _).same _ _) | with_reducible exact (((z0.out.ne (by omega) _ _).same _ _).alloc _) | with_reducible exact ((((z0.out.ne (by omega) _ _).same _ _).alloc _).alloc _) | with_reducible exact (z1.out.same _ _) | with_reducible exact ((z1.out.same _ _).alloc _) | with_reducible exact (((z1.out.same _ _).alloc _).alloc _) | with_reducible exact ((z1.out.same _ _).ne (by omega) _ _) | with_reducible exact (((z1.out.same _ _).ne (by omega) _ _).alloc _) | with_reducible exact ((((z1.out.same _ _).ne (by omega) _ _).alloc _).alloc _) | with_reducible exact ((z1.out.ne (by omega) _ _).same _ _) | with_reducible exact (((z1.out.ne (by omega) _ _).same _ _).alloc _) | with_reducible exact ((((z1.out.ne (by omega) _ _).same _ _).alloc _).alloc _) | with_reducible exact IBox.new iN.out.sz | with_reducible exact IBox.newSet iN.out.sz | with_reducible exact (IBox.new iN.out.sz).alloc _ | with_reducible exact IBox.new (iN.out.set2 (by first | exact y0.out.le | exact y1.out.le | exact z0.out.le | exact z1.out.le) _ _).sz | with_reducible exact (IBox.new (iN.out.set2 (by first | exact y0.out.le | exact y1.out.le | exact z0.out.le | exact z1.out.le) _ _).sz).alloc _ | with_reducible exact IBox.new ((iN.out.set2 (by first | exact y0.out.le | exact y1.out.le | exact z0.out.le | exact z1.out.le) _ _).set2 (by first | exact y0.out.le | exact y1.out.le | exact z0.out.le | exact z1.out.le) _ _).sz | with_reducible exact (IBox.new ((iN.out.set2 (by first | exact y0.out.le | exact y1.out.le | exact z0.out.le | exact z1.out.le) _ _).set2 (by first | exact y0.out.le | exact y1.out.le | exact z0.out.le | exact z1.out.le) _ _).sz).alloc _ | (have hz : IBox n0 ((v2.alloc (Obj.cells #[.float .f64 bl, .float .f64 bh] 67)).alloc (Obj.cells #[.float .f64 al, .float .f64 ah] 67)) _ _ _ := IBox.new (iN.out.alloc _).sz; simp only [World.size_alloc] at hz; exact hz) | (have hz : IBox n0 ((v2.alloc (Obj.cells #[.float .f64 al, .float .f64 ah] 67)).alloc (Obj.cells #[.float .f64 bl, .float .f64 bh] 67)) _ _ _ := IBox.new (iN.out.alloc _).sz; simp only [World.size_alloc] at hz; exact hz))
  case rest =>
    clear HX HY hn0 hg2 m0
    obtain ⟨ga, gb, rfl, rfl, hP, hA, hB⟩ := hcut
    have MP : Hid (PSt w wc g2 n0 _ _ _ _) := hP
    obtain ⟨a0, a1, -, -⟩ := blk2 hA.1
    obtain ⟨b0, b1, -, -⟩ := blk2 hB.1
    have la := lt_of_row hA.1
    have lb := lt_of_row hB.1
    have HC' := HC.out
    clear hP hA hB HC
    rcases HC' with ⟨hk, e3, es, h⟩ | ⟨hk, e3, es, h⟩ | ⟨hk, h⟩ | ⟨hk, h⟩ | ⟨hk, h⟩ | ⟨hk, h⟩ | ⟨hk, h⟩ | ⟨hk, h⟩ | ⟨h0, h1, h2, h3, h4, h5, h6, h7, e1, e2, e3, es⟩
    ·
      subst hk e3 es
      have H : Hid (∀ w, Calls Tryz.prog 41 #[.agg #[.float .f64 al, .float .f64 ah]] w fun ev w' => ev = .returned (.agg #[.float .f64 r1, .float .f64 r2]) ∧ Below w.heap.size w w') := h
      clear h
      go_wp2_with fail
      refine Calls.mono (H.out _) ?_
      rintro e w5 ⟨rfl, hb5⟩
      have IC : Hid (IBox n0 w5 wc.heap.size al ah) := (IBox.new MP.out.sz).below hb5
      have MP5 : Hid (PSt w w5 g2 n0 _ _ _ _) := (MP.out.alloc _).below hb5
      clear hb5 a0 a1 b0 b1 la lb H
      obtain ⟨c0, c1, c2, c3⟩ := blk2 IC.out.1
      go_wp2_with fail
      have IC6 : Hid (IBox n0 ((w5.setCell ⟨wc.heap.size, 0, none⟩ (.float .f64 r1)).setCell ⟨wc.heap.size, 1, none⟩ (.float .f64 r2)) wc.heap.size r1 r2) := IC.out.same _ _
      have MP6 : Hid (PSt w ((w5.setCell ⟨wc.heap.size, 0, none⟩ (.float .f64 r1)).setCell ⟨wc.heap.size, 1, none⟩ (.float .f64 r2)) g2 n0 _ _ _ _) := MP5.out.set2 IC.out.le _ _
      refine Calls.mono (HCD.out _ _ MP6.out.hb .nil) ?_
      rintro e w7 ⟨rfl, hb7⟩
      clear IC MP5 c0 c1 c2 c3
      have IC7 : Hid (IBox n0 w7 wc.heap.size r1 r2) := IC6.out.below hb7
      have MP7 : Hid (PSt w w7 g2 n0 _ _ _ _) := MP6.out.below hb7
      clear hb7 IC6 MP6
      obtain ⟨c0, c1, -, -⟩ := blk2 IC7.out.1
      go_wp2_with fail
      refine Calls.mono (HBX.out _) ?_
      rintro e w8 ⟨rfl, hb8⟩
      have MP8 : Hid (PSt w w8 g2 n0 _ _ _ _) := MP7.out.below hb8
      clear hb8 MP7 IC7 c0 c1
      obtain ⟨d0, d1, d2, d3⟩ := blk2 MP8.out.k2
      go_wp2_with fail
      obtain ⟨p0, p1, -, -⟩ := blk2 (blk_store2 (a := .int .u64 (r1 : Int)) (b := .int .u64 (r2 : Int)) MP8.out.k2)
      refine bodyPost_ret (v := .tuple #[.agg #[.int .u64 (r1 : Int), .int .u64 (r2 : Int)], .int .i64 (0), .string ⟨#[]⟩]) (by simp [results, Tryz.results21, go_sem, p0, p1]) rfl ?_
      exact ⟨rfl, (MP8.out.hb.setCell (by exact MP8.out.l2) _).setCell (by exact MP8.out.l2) _⟩
    ·
      subst hk e3 es
      have H : Hid (∀ w, Calls Tryz.prog 42 #[.agg #[.float .f64 al, .float .f64 ah], .agg #[.float .f64 bl, .float .f64 bh]] w fun ev w' => ev = .returned (.agg #[.float .f64 r1, .float .f64 r2]) ∧ Below w.heap.size w w') := h
      clear h
      go_wp2_with fail
      refine Calls.mono (H.out _) ?_
      rintro e w5 ⟨rfl, hb5⟩
      have IC : Hid (IBox n0 w5 wc.heap.size al ah) := (IBox.new MP.out.sz).below hb5
      have MP5 : Hid (PSt w w5 g2 n0 _ _ _ _) := (MP.out.alloc _).below hb5
      clear hb5 a0 a1 b0 b1 la lb H
      obtain ⟨c0, c1, c2, c3⟩ := blk2 IC.out.1
      go_wp2_with fail
      have IC6 : Hid (IBox n0 ((w5.setCell ⟨wc.heap.size, 0, none⟩ (.float .f64 r1)).setCell ⟨wc.heap.size, 1, none⟩ (.float .f64 r2)) wc.heap.size r1 r2) := IC.out.same _ _
      have MP6 : Hid (PSt w ((w5.setCell ⟨wc.heap.size, 0, none⟩ (.float .f64 r1)).setCell ⟨wc.heap.size, 1, none⟩ (.float .f64 r2)) g2 n0 _ _ _ _) := MP5.out.set2 IC.out.le _ _
      refine Calls.mono (HCD.out _ _ MP6.out.hb .nil) ?_
      rintro e w7 ⟨rfl, hb7⟩
      clear IC MP5 c0 c1 c2 c3
      have IC7 : Hid (IBox n0 w7 wc.heap.size r1 r2) := IC6.out.below hb7
      have MP7 : Hid (PSt w w7 g2 n0 _ _ _ _) := MP6.out.below hb7
      clear hb7 IC6 MP6
      obtain ⟨c0, c1, -, -⟩ := blk2 IC7.out.1
      go_wp2_with fail
      refine Calls.mono (HBX.out _) ?_
      rintro e w8 ⟨rfl, hb8⟩
      have MP8 : Hid (PSt w w8 g2 n0 _ _ _ _) := MP7.out.below hb8
      clear hb8 MP7 IC7 c0 c1
      obtain ⟨d0, d1, d2, d3⟩ := blk2 MP8.out.k2
      go_wp2_with fail
      obtain ⟨p0, p1, -, -⟩ := blk2 (blk_store2 (a := .int .u64 (r1 : Int)) (b := .int .u64 (r2 : Int)) MP8.out.k2)
      refine bodyPost_ret (v := .tuple #[.agg #[.int .u64 (r1 : Int), .int .u64 (r2 : Int)], .int .i64 (0), .string ⟨#[]⟩]) (by simp [results, Tryz.results21, go_sem, p0, p1]) rfl ?_
      exact ⟨rfl, (MP8.out.hb.setCell (by exact MP8.out.l2) _).setCell (by exact MP8.out.l2) _⟩
    ·
      subst hk
      have H : Hid (∀ W, Below w.heap.size w W → Calls Tryz.prog 43 #[.agg #[.float .f64 al, .float .f64 ah], .agg #[.float .f64 bl, .float .f64 bh]] W fun ev w' => OpR A W r1 r2 r3 rs ev w') := fun W hb => h W (HS.out.below hb (Nat.le_refl _))
      clear h
      go_wp2_with fail
      refine Calls.mono (H.out _ (MP.out.alloc _).hb) ?_
      rintro e w5 ⟨v, rfl, hE, hb5⟩
      have IC : Hid (IBox n0 w5 wc.heap.size al ah) := (IBox.new MP.out.sz).below hb5
      have MP5 : Hid (PSt w w5 g2 n0 _ _ _ _) := (MP.out.alloc _).below hb5
      have HE : Hid (ErrIs A w5 v r3 rs) := hE
      clear hb5 a0 a1 b0 b1 la lb H hE
      obtain ⟨c0, c1, c2, c3⟩ := blk2 IC.out.1
      go_wp2_with fail
      have IC6 : Hid (IBox n0 ((w5.setCell ⟨wc.heap.size, 0, none⟩ (.float .f64 r1)).setCell ⟨wc.heap.size, 1, none⟩ (.float .f64 r2)) wc.heap.size r1 r2) := IC.out.same _ _
      have MP6 : Hid (PSt w ((w5.setCell ⟨wc.heap.size, 0, none⟩ (.float .f64 r1)).setCell ⟨wc.heap.size, 1, none⟩ (.float .f64 r2)) g2 n0 _ _ _ _) := MP5.out.set2 IC.out.le _ _
      have hBX : BoxT w5 wc.heap.size 67 := BoxT.of IC.out.1
      refine Calls.mono (HCD.out _ _ MP6.out.hb ((HE.out.set hBX (by decide)).set hBX.set (by decide))) ?_
      rintro e w7 ⟨rfl, hb7⟩
      clear IC MP5 c0 c1 c2 c3 HE hBX
      have IC7 : Hid (IBox n0 w7 wc.heap.size r1 r2) := IC6.out.below hb7
      have MP7 : Hid (PSt w w7 g2 n0 _ _ _ _) := MP6.out.below hb7
      clear hb7 IC6 MP6
      obtain ⟨c0, c1, -, -⟩ := blk2 IC7.out.1
      go_wp2_with fail
      refine Calls.mono (HBX.out _) ?_
      rintro e w8 ⟨rfl, hb8⟩
      have MP8 : Hid (PSt w w8 g2 n0 _ _ _ _) := MP7.out.below hb8
      clear hb8 MP7 IC7 c0 c1
      obtain ⟨d0, d1, d2, d3⟩ := blk2 MP8.out.k2
      go_wp2_with fail
      obtain ⟨p0, p1, -, -⟩ := blk2 (blk_store2 (a := .int .u64 (r1 : Int)) (b := .int .u64 (r2 : Int)) MP8.out.k2)
      refine bodyPost_ret (v := .tuple #[.agg #[.int .u64 (r1 : Int), .int .u64 (r2 : Int)], .int .i64 ((r3 : Int)), .string rs]) (by simp [results, Tryz.results21, go_sem, p0, p1]) rfl ?_
      exact ⟨rfl, (MP8.out.hb.setCell (by exact MP8.out.l2) _).setCell (by exact MP8.out.l2) _⟩
    ·
      subst hk
      have H : Hid (∀ W, Below w.heap.size w W → Calls Tryz.prog 44 #[.agg #[.float .f64 al, .float .f64 ah], .agg #[.float .f64 bl, .float .f64 bh]] W fun ev w' => OpR A W r1 r2 r3 rs ev w') := fun W hb => h W (HS.out.below hb (Nat.le_refl _))
      clear h
      go_wp2_with fail
      refine Calls.mono (H.out _ (MP.out.alloc _).hb) ?_
      rintro e w5 ⟨v, rfl, hE, hb5⟩
      have IC : Hid (IBox n0 w5 wc.heap.size al ah) := (IBox.new MP.out.sz).below hb5
      have MP5 : Hid (PSt w w5 g2 n0 _ _ _ _) := (MP.out.alloc _).below hb5
      have HE : Hid (ErrIs A w5 v r3 rs) := hE
      clear hb5 a0 a1 b0 b1 la lb H hE
      obtain ⟨c0, c1, c2, c3⟩ := blk2 IC.out.1
      go_wp2_with fail
      have IC6 : Hid (IBox n0 ((w5.setCell ⟨wc.heap.size, 0, none⟩ (.float .f64 r1)).setCell ⟨wc.heap.size, 1, none⟩ (.float .f64 r2)) wc.heap.size r1 r2) := IC.out.same _ _
      have MP6 : Hid (PSt w ((w5.setCell ⟨wc.heap.size, 0, none⟩ (.float .f64 r1)).setCell ⟨wc.heap.size, 1, none⟩ (.float .f64 r2)) g2 n0 _ _ _ _) := MP5.out.set2 IC.out.le _ _
      have hBX : BoxT w5 wc.heap.size 67 := BoxT.of IC.out.1
      refine Calls.mono (HCD.out _ _ MP6.out.hb ((HE.out.set hBX (by decide)).set hBX.set (by decide))) ?_
      rintro e w7 ⟨rfl, hb7⟩
      clear IC MP5 c0 c1 c2 c3 HE hBX
      have IC7 : Hid (IBox n0 w7 wc.heap.size r1 r2) := IC6.out.below hb7
      have MP7 : Hid (PSt w w7 g2 n0 _ _ _ _) := MP6.out.below hb7
      clear hb7 IC6 MP6
      obtain ⟨c0, c1, -, -⟩ := blk2 IC7.out.1
      go_wp2_with fail
      refine Calls.mono (HBX.out _) ?_
      rintro e w8 ⟨rfl, hb8⟩
      have MP8 : Hid (PSt w w8 g2 n0 _ _ _ _) := MP7.out.below hb8
      clear hb8 MP7 IC7 c0 c1
      obtain ⟨d0, d1, d2, d3⟩ := blk2 MP8.out.k2
      go_wp2_with fail
      obtain ⟨p0, p1, -, -⟩ := blk2 (blk_store2 (a := .int .u64 (r1 : Int)) (b := .int .u64 (r2 : Int)) MP8.out.k2)
      refine bodyPost_ret (v := .tuple #[.agg #[.int .u64 (r1 : Int), .int .u64 (r2 : Int)], .int .i64 ((r3 : Int)), .string rs]) (by simp [results, Tryz.results21, go_sem, p0, p1]) rfl ?_
      exact ⟨rfl, (MP8.out.hb.setCell (by exact MP8.out.l2) _).setCell (by exact MP8.out.l2) _⟩
    ·
      subst hk
      have H : Hid (∀ W, Below w.heap.size w W → Calls Tryz.prog 45 #[.agg #[.float .f64 al, .float .f64 ah], .agg #[.float .f64 bl, .float .f64 bh]] W fun ev w' => OpR A W r1 r2 r3 rs ev w') := fun W hb => h W (HS.out.below hb (Nat.le_refl _))
      clear h
      go_wp2_with fail
      refine Calls.mono (H.out _ (MP.out.alloc _).hb) ?_
      rintro e w5 ⟨v, rfl, hE, hb5⟩
      have IC : Hid (IBox n0 w5 wc.heap.size al ah) := (IBox.new MP.out.sz).below hb5
      have MP5 : Hid (PSt w w5 g2 n0 _ _ _ _) := (MP.out.alloc _).below hb5
      have HE : Hid (ErrIs A w5 v r3 rs) := hE
      clear hb5 a0 a1 b0 b1 la lb H hE
      obtain ⟨c0, c1, c2, c3⟩ := blk2 IC.out.1
      go_wp2_with fail
      have IC6 : Hid (IBox n0 ((w5.setCell ⟨wc.heap.size, 0, none⟩ (.float .f64 r1)).setCell ⟨wc.heap.size, 1, none⟩ (.float .f64 r2)) wc.heap.size r1 r2) := IC.out.same _ _
      have MP6 : Hid (PSt w ((w5.setCell ⟨wc.heap.size, 0, none⟩ (.float .f64 r1)).setCell ⟨wc.heap.size, 1, none⟩ (.float .f64 r2)) g2 n0 _ _ _ _) := MP5.out.set2 IC.out.le _ _
      have hBX : BoxT w5 wc.heap.size 67 := BoxT.of IC.out.1
      refine Calls.mono (HCD.out _ _ MP6.out.hb ((HE.out.set hBX (by decide)).set hBX.set (by decide))) ?_
      rintro e w7 ⟨rfl, hb7⟩
      clear IC MP5 c0 c1 c2 c3 HE hBX
      have IC7 : Hid (IBox n0 w7 wc.heap.size r1 r2) := IC6.out.below hb7
      have MP7 : Hid (PSt w w7 g2 n0 _ _ _ _) := MP6.out.below hb7
      clear hb7 IC6 MP6
      obtain ⟨c0, c1, -, -⟩ := blk2 IC7.out.1
      go_wp2_with fail
      refine Calls.mono (HBX.out _) ?_
      rintro e w8 ⟨rfl, hb8⟩
      have MP8 : Hid (PSt w w8 g2 n0 _ _ _ _) := MP7.out.below hb8
      clear hb8 MP7 IC7 c0 c1
      obtain ⟨d0, d1, d2, d3⟩ := blk2 MP8.out.k2
      go_wp2_with fail
      obtain ⟨p0, p1, -, -⟩ := blk2 (blk_store2 (a := .int .u64 (r1 : Int)) (b := .int .u64 (r2 : Int)) MP8.out.k2)
      refine bodyPost_ret (v := .tuple #[.agg #[.int .u64 (r1 : Int), .int .u64 (r2 : Int)], .int .i64 ((r3 : Int)), .string rs]) (by simp [results, Tryz.results21, go_sem, p0, p1]) rfl ?_
      exact ⟨rfl, (MP8.out.hb.setCell (by exact MP8.out.l2) _).setCell (by exact MP8.out.l2) _⟩
    ·
      subst hk
      have H : Hid (∀ W, Below w.heap.size w W → Calls Tryz.prog 46 #[.agg #[.float .f64 al, .float .f64 ah], .agg #[.float .f64 bl, .float .f64 bh]] W fun ev w' => OpR A W r1 r2 r3 rs ev w') := fun W hb => h W (HS.out.below hb (Nat.le_refl _))
      clear h
      go_wp2_with fail
      refine Calls.mono (H.out _ (MP.out.alloc _).hb) ?_
      rintro e w5 ⟨v, rfl, hE, hb5⟩
      have IC : Hid (IBox n0 w5 wc.heap.size al ah) := (IBox.new MP.out.sz).below hb5
      have MP5 : Hid (PSt w w5 g2 n0 _ _ _ _) := (MP.out.alloc _).below hb5
      have HE : Hid (ErrIs A w5 v r3 rs) := hE
      clear hb5 a0 a1 b0 b1 la lb H hE
      obtain ⟨c0, c1, c2, c3⟩ := blk2 IC.out.1
      go_wp2_with fail
      have IC6 : Hid (IBox n0 ((w5.setCell ⟨wc.heap.size, 0, none⟩ (.float .f64 r1)).setCell ⟨wc.heap.size, 1, none⟩ (.float .f64 r2)) wc.heap.size r1 r2) := IC.out.same _ _
      have MP6 : Hid (PSt w ((w5.setCell ⟨wc.heap.size, 0, none⟩ (.float .f64 r1)).setCell ⟨wc.heap.size, 1, none⟩ (.float .f64 r2)) g2 n0 _ _ _ _) := MP5.out.set2 IC.out.le _ _
      have hBX : BoxT w5 wc.heap.size 67 := BoxT.of IC.out.1
      refine Calls.mono (HCD.out _ _ MP6.out.hb ((HE.out.set hBX (by decide)).set hBX.set (by decide))) ?_
      rintro e w7 ⟨rfl, hb7⟩
      clear IC MP5 c0 c1 c2 c3 HE hBX
      have IC7 : Hid (IBox n0 w7 wc.heap.size r1 r2) := IC6.out.below hb7
      have MP7 : Hid (PSt w w7 g2 n0 _ _ _ _) := MP6.out.below hb7
      clear hb7 IC6 MP6
      obtain ⟨c0, c1, -, -⟩ := blk2 IC7.out.1
      go_wp2_with fail
      refine Calls.mono (HBX.out _) ?_
      rintro e w8 ⟨rfl, hb8⟩
      have MP8 : Hid (PSt w w8 g2 n0 _ _ _ _) := MP7.out.below hb8
      clear hb8 MP7 IC7 c0 c1
      obtain ⟨d0, d1, d2, d3⟩ := blk2 MP8.out.k2
      go_wp2_with fail
      obtain ⟨p0, p1, -, -⟩ := blk2 (blk_store2 (a := .int .u64 (r1 : Int)) (b := .int .u64 (r2 : Int)) MP8.out.k2)
      refine bodyPost_ret (v := .tuple #[.agg #[.int .u64 (r1 : Int), .int .u64 (r2 : Int)], .int .i64 ((r3 : Int)), .string rs]) (by simp [results, Tryz.results21, go_sem, p0, p1]) rfl ?_
      exact ⟨rfl, (MP8.out.hb.setCell (by exact MP8.out.l2) _).setCell (by exact MP8.out.l2) _⟩
    ·
      subst hk
      have H : Hid (∀ W, Below w.heap.size w W → Calls Tryz.prog 47 #[.agg #[.float .f64 al, .float .f64 ah], .agg #[.float .f64 bl, .float .f64 bh]] W fun ev w' => OpR A W r1 r2 r3 rs ev w') := fun W hb => h W (HS.out.below hb (Nat.le_refl _))
      clear h
      go_wp2_with fail
      refine Calls.mono (H.out _ (MP.out.alloc _).hb) ?_
      rintro e w5 ⟨v, rfl, hE, hb5⟩
      have IC : Hid (IBox n0 w5 wc.heap.size al ah) := (IBox.new MP.out.sz).below hb5
      have MP5 : Hid (PSt w w5 g2 n0 _ _ _ _) := (MP.out.alloc _).below hb5
      have HE : Hid (ErrIs A w5 v r3 rs) := hE
      clear hb5 a0 a1 b0 b1 la lb H hE
      obtain ⟨c0, c1, c2, c3⟩ := blk2 IC.out.1
      go_wp2_with fail
      have IC6 : Hid (IBox n0 ((w5.setCell ⟨wc.heap.size, 0, none⟩ (.float .f64 r1)).setCell ⟨wc.heap.size, 1, none⟩ (.float .f64 r2)) wc.heap.size r1 r2) := IC.out.same _ _
      have MP6 : Hid (PSt w ((w5.setCell ⟨wc.heap.size, 0, none⟩ (.float .f64 r1)).setCell ⟨wc.heap.size, 1, none⟩ (.float .f64 r2)) g2 n0 _ _ _ _) := MP5.out.set2 IC.out.le _ _
      have hBX : BoxT w5 wc.heap.size 67 := BoxT.of IC.out.1
      refine Calls.mono (HCD.out _ _ MP6.out.hb ((HE.out.set hBX (by decide)).set hBX.set (by decide))) ?_
      rintro e w7 ⟨rfl, hb7⟩
      clear IC MP5 c0 c1 c2 c3 HE hBX
      have IC7 : Hid (IBox n0 w7 wc.heap.size r1 r2) := IC6.out.below hb7
      have MP7 : Hid (PSt w w7 g2 n0 _ _ _ _) := MP6.out.below hb7
      clear hb7 IC6 MP6
      obtain ⟨c0, c1, -, -⟩ := blk2 IC7.out.1
      go_wp2_with fail
      refine Calls.mono (HBX.out _) ?_
      rintro e w8 ⟨rfl, hb8⟩
      have MP8 : Hid (PSt w w8 g2 n0 _ _ _ _) := MP7.out.below hb8
      clear hb8 MP7 IC7 c0 c1
      obtain ⟨d0, d1, d2, d3⟩ := blk2 MP8.out.k2
      go_wp2_with fail
      obtain ⟨p0, p1, -, -⟩ := blk2 (blk_store2 (a := .int .u64 (r1 : Int)) (b := .int .u64 (r2 : Int)) MP8.out.k2)
      refine bodyPost_ret (v := .tuple #[.agg #[.int .u64 (r1 : Int), .int .u64 (r2 : Int)], .int .i64 ((r3 : Int)), .string rs]) (by simp [results, Tryz.results21, go_sem, p0, p1]) rfl ?_
      exact ⟨rfl, (MP8.out.hb.setCell (by exact MP8.out.l2) _).setCell (by exact MP8.out.l2) _⟩
    ·
      subst hk
      have H : Hid (∀ W, Below w.heap.size w W → Calls Tryz.prog 48 #[.agg #[.float .f64 al, .float .f64 ah]] W fun ev w' => OpR A W r1 r2 r3 rs ev w') := fun W hb => h W (HS.out.below hb (Nat.le_refl _))
      clear h
      go_wp2_with fail
      refine Calls.mono (H.out _ (MP.out.alloc _).hb) ?_
      rintro e w5 ⟨v, rfl, hE, hb5⟩
      have IC : Hid (IBox n0 w5 wc.heap.size al ah) := (IBox.new MP.out.sz).below hb5
      have MP5 : Hid (PSt w w5 g2 n0 _ _ _ _) := (MP.out.alloc _).below hb5
      have HE : Hid (ErrIs A w5 v r3 rs) := hE
      clear hb5 a0 a1 b0 b1 la lb H hE
      obtain ⟨c0, c1, c2, c3⟩ := blk2 IC.out.1
      go_wp2_with fail
      have IC6 : Hid (IBox n0 ((w5.setCell ⟨wc.heap.size, 0, none⟩ (.float .f64 r1)).setCell ⟨wc.heap.size, 1, none⟩ (.float .f64 r2)) wc.heap.size r1 r2) := IC.out.same _ _
      have MP6 : Hid (PSt w ((w5.setCell ⟨wc.heap.size, 0, none⟩ (.float .f64 r1)).setCell ⟨wc.heap.size, 1, none⟩ (.float .f64 r2)) g2 n0 _ _ _ _) := MP5.out.set2 IC.out.le _ _
      have hBX : BoxT w5 wc.heap.size 67 := BoxT.of IC.out.1
      refine Calls.mono (HCD.out _ _ MP6.out.hb ((HE.out.set hBX (by decide)).set hBX.set (by decide))) ?_
      rintro e w7 ⟨rfl, hb7⟩
      clear IC MP5 c0 c1 c2 c3 HE hBX
      have IC7 : Hid (IBox n0 w7 wc.heap.size r1 r2) := IC6.out.below hb7
      have MP7 : Hid (PSt w w7 g2 n0 _ _ _ _) := MP6.out.below hb7
      clear hb7 IC6 MP6
      obtain ⟨c0, c1, -, -⟩ := blk2 IC7.out.1
      go_wp2_with fail
      refine Calls.mono (HBX.out _) ?_
      rintro e w8 ⟨rfl, hb8⟩
      have MP8 : Hid (PSt w w8 g2 n0 _ _ _ _) := MP7.out.below hb8
      clear hb8 MP7 IC7 c0 c1
      obtain ⟨d0, d1, d2, d3⟩ := blk2 MP8.out.k2
      go_wp2_with fail
      obtain ⟨p0, p1, -, -⟩ := blk2 (blk_store2 (a := .int .u64 (r1 : Int)) (b := .int .u64 (r2 : Int)) MP8.out.k2)
      refine bodyPost_ret (v := .tuple #[.agg #[.int .u64 (r1 : Int), .int .u64 (r2 : Int)], .int .i64 ((r3 : Int)), .string rs]) (by simp [results, Tryz.results21, go_sem, p0, p1]) rfl ?_
      exact ⟨rfl, (MP8.out.hb.setCell (by exact MP8.out.l2) _).setCell (by exact MP8.out.l2) _⟩
    ·
      subst e1 e2 e3 es
      have IC6 : Hid (IBox n0 (wc.alloc (Obj.cells #[.float .f64 r1, .float .f64 r2] 67)) wc.heap.size r1 r2) := IBox.new MP.out.sz
      have MP6 : Hid (PSt w (wc.alloc (Obj.cells #[.float .f64 r1, .float .f64 r2] 67)) g2 n0 _ _ _ _) := MP.out.alloc _
      go_wp2_with fail
      refine Calls.mono (HCD.out _ _ MP6.out.hb .nil) ?_
      rintro e w7 ⟨rfl, hb7⟩
      clear a0 a1 b0 b1 la lb
      have IC7 : Hid (IBox n0 w7 wc.heap.size r1 r2) := IC6.out.below hb7
      have MP7 : Hid (PSt w w7 g2 n0 _ _ _ _) := MP6.out.below hb7
      clear hb7 IC6 MP6
      obtain ⟨c0, c1, -, -⟩ := blk2 IC7.out.1
      go_wp2_with fail
      refine Calls.mono (HBX.out _) ?_
      rintro e w8 ⟨rfl, hb8⟩
      have MP8 : Hid (PSt w w8 g2 n0 _ _ _ _) := MP7.out.below hb8
      clear hb8 MP7 IC7 c0 c1
      obtain ⟨d0, d1, d2, d3⟩ := blk2 MP8.out.k2
      go_wp2_with fail
      obtain ⟨p0, p1, -, -⟩ := blk2 (blk_store2 (a := .int .u64 (r1 : Int)) (b := .int .u64 (r2 : Int)) MP8.out.k2)
      refine bodyPost_ret (v := .tuple #[.agg #[.int .u64 (r1 : Int), .int .u64 (r2 : Int)], .int .i64 (0), .string ⟨#[]⟩]) (by simp [results, Tryz.results21, go_sem, p0, p1]) rfl ?_
      exact ⟨rfl, (MP8.out.hb.setCell (by exact MP8.out.l2) _).setCell (by exact MP8.out.l2) _⟩
end Go.Proofs.YtonhpkigoplmaaaGreatDoor
namespace Go.Proofs.YtonhpkigoplmaaaGreatDoor
open Go.RowKit Go.Extern Ieee
attribute [local go_sem] run_store_float

/-- The lower, the greater one of two floats, as the built-in functions give it. -/
def MinF (x y z : Nat) : Prop := ∀ (w : World) (ts : Array TypeId) (t : TypeId), (Builtin.min_ ts t #[.float .f64 x, .float .f64 y]).run Tryz.prog w = .ok (.float .f64 z) w
def MaxF (x y z : Nat) : Prop := ∀ (w : World) (ts : Array TypeId) (t : TypeId), (Builtin.max_ ts t #[.float .f64 x, .float .f64 y]).run Tryz.prog w = .ok (.float .f64 z) w

theorem c_ix0 (a b c d e f : Nat) (w : World) : (Instr.index 180 (.agg #[.float .f64 a, .float .f64 b, .float .f64 c, .float .f64 d, .float .f64 e, .float .f64 f]) (.int .i64 0)).run Tryz.prog w = .ok (.agg #[.float .f64 a, .float .f64 b]) w := by kernel_rfl
theorem c_ix1 (a b c d e f : Nat) (w : World) : (Instr.index 180 (.agg #[.float .f64 a, .float .f64 b, .float .f64 c, .float .f64 d, .float .f64 e, .float .f64 f]) (.int .i64 1)).run Tryz.prog w = .ok (.agg #[.float .f64 c, .float .f64 d]) w := by kernel_rfl
theorem c_ix2 (a b c d e f : Nat) (w : World) : (Instr.index 180 (.agg #[.float .f64 a, .float .f64 b, .float .f64 c, .float .f64 d, .float .f64 e, .float .f64 f]) (.int .i64 2)).run Tryz.prog w = .ok (.agg #[.float .f64 e, .float .f64 f]) w := by kernel_rfl

set_option maxRecDepth 100000 in
set_option maxHeartbeats 4000000 in
theorem corners_mul (al ah bl bh d1 u1 d2 u2 d3 u3 d4 u4 l2 l3 lo g2 g3 hi : Nat) (w : World)
    (m1 : MinF d1 d2 l2) (m2 : MinF l2 d3 l3) (m3 : MinF l3 d4 lo) (x1 : MaxF u1 u2 g2) (x2 : MaxF g2 u3 g3) (x3 : MaxF g3 u4 hi)
    (h1 : Gives 92 #[.float .f64 al, .float .f64 bl] d1 u1) (h2 : Gives 92 #[.float .f64 al, .float .f64 bh] d2 u2) (h3 : Gives 92 #[.float .f64 ah, .float .f64 bl] d3 u3) (h4 : Gives 92 #[.float .f64 ah, .float .f64 bh] d4 u4) :
    Calls Tryz.prog 91 #[.func (.func 92) #[] #[], .agg #[.float .f64 al, .float .f64 ah], .agg #[.float .f64 bl, .float .f64 bh]] w fun ev w' => ev = .returned (.tuple #[.float .f64 lo, .float .f64 hi]) ∧ Below w.heap.size w w' := by
  have H1 : Hid (∀ w, Calls Tryz.prog 92 #[.float .f64 al, .float .f64 bl] w fun ev w' => ev = .returned (.agg #[.float .f64 d1, .float .f64 u1]) ∧ Below w.heap.size w w') := h1
  have H2 : Hid (∀ w, Calls Tryz.prog 92 #[.float .f64 al, .float .f64 bh] w fun ev w' => ev = .returned (.agg #[.float .f64 d2, .float .f64 u2]) ∧ Below w.heap.size w w') := h2
  have H3 : Hid (∀ w, Calls Tryz.prog 92 #[.float .f64 ah, .float .f64 bl] w fun ev w' => ev = .returned (.agg #[.float .f64 d3, .float .f64 u3]) ∧ Below w.heap.size w w') := h3
  have H4 : Hid (∀ w, Calls Tryz.prog 92 #[.float .f64 ah, .float .f64 bh] w fun ev w' => ev = .returned (.agg #[.float .f64 d4, .float .f64 u4]) ∧ Below w.heap.size w w') := h4
  have f0 := c_fld0
  have f1 := c_fld1
  clear h1 h2 h3 h4
  go_enter Tryz.func91, Tryz.ntmps91
  go_wp2_with fail
  have B0 := blk_old (blk_new w (Obj.cells #[.float .f64 al, .float .f64 ah] 67)) (Obj.cells #[.float .f64 bl, .float .f64 bh] 67)
  have B1 := blk_new (w.alloc (Obj.cells #[.float .f64 al, .float .f64 ah] 67)) (Obj.cells #[.float .f64 bl, .float .f64 bh] 67)
  have hW : Below w.heap.size w ((w.alloc (Obj.cells #[.float .f64 al, .float .f64 ah] 67)).alloc (Obj.cells #[.float .f64 bl, .float .f64 bh] 67)) := ((Below.refl _ _).alloc (Nat.le_refl _) _).alloc (by simp) _
  simp only [World.size_alloc] at B1
  generalize ((w.alloc (Obj.cells #[.float .f64 al, .float .f64 ah] 67)).alloc (Obj.cells #[.float .f64 bl, .float .f64 bh] 67)) = W2 at *
  refine Calls.mono (H1.out _) ?_
  rintro e w3 ⟨rfl, hb3⟩
  have C0 := blk_old (blk_below B0 hb3) (Obj.cells #[.float .f64 d1, .float .f64 u1] 130)
  have C1 := blk_old (blk_below B1 hb3) (Obj.cells #[.float .f64 d1, .float .f64 u1] 130)
  have hX : Below w.heap.size w ((w3.alloc (Obj.cells #[.float .f64 d1, .float .f64 u1] 130)).drew) := ((hW.trans (hb3.mono hW.size)).alloc (Nat.le_trans hW.size hb3.size) _).drew
  clear B0 B1 hb3 hW H1
  go_wp2_with fail
  go_region
  have HC0 : Hid ((w3.alloc (Obj.cells #[.float .f64 d1, .float .f64 u1] 130)).drew.heap[w.heap.size]? = _) := C0
  have HC1 : Hid ((w3.alloc (Obj.cells #[.float .f64 d1, .float .f64 u1] 130)).drew.heap[w.heap.size + 1]? = _) := C1
  have HX : Hid (Below w.heap.size w (w3.alloc (Obj.cells #[.float .f64 d1, .float .f64 u1] 130)).drew) := hX
  clear C0 C1 hX
  generalize (w3.alloc (Obj.cells #[.float .f64 d1, .float .f64 u1] 130)).drew = W4 at *
  obtain ⟨a0, a1, -, -⟩ := blk2 HC0.out
  obtain ⟨b0, b1, -, -⟩ := blk2 HC1.out
  go_wp2_with fail
  have HD0 : Hid (W4.drew.heap[w.heap.size]? = _) := HC0.out
  have HD1 : Hid (W4.drew.heap[w.heap.size + 1]? = _) := HC1.out
  have HY : Hid (Below w.heap.size w W4.drew) := HX.out.drew
  clear HC0 HC1 HX
  go_region_held3 (fun W => W.cell? ⟨w.heap.size, 0, none⟩ = some (.float .f64 al) ∧ W.cell? ⟨w.heap.size, 1, none⟩ = some (.float .f64 ah) ∧ W.cell? ⟨w.heap.size + 1, 0, none⟩ = some (.float .f64 bl) ∧ W.cell? ⟨w.heap.size + 1, 1, none⟩ = some (.float .f64 bh)) (first | (go_keep; done) | (refine ⟨?_, ?_, ?_, ?_⟩ <;> first | (go_keep; done) | assumption))
    (first
      | (go_at_call 92; with_reducible (refine Calls.mono (H2.out _) ?_); rintro e w5 ⟨rfl, hb5⟩
         have HB5 : Hid (Below _ _ w5) := hb5
         obtain ⟨a0, a1, -, -⟩ := blk2 (blk_below HD0.out hb5)
         obtain ⟨b0, b1, -, -⟩ := blk2 (blk_below HD1.out hb5)
         clear hb5)
      | (go_at_call 92; with_reducible (refine Calls.mono (H3.out _) ?_); rintro e w6 ⟨rfl, hb6⟩
         have HB6 : Hid (Below _ _ w6) := hb6
         obtain ⟨a0, a1, -, -⟩ := blk2 (blk_below (blk_below HD0.out HB5.out) hb6)
         obtain ⟨b0, b1, -, -⟩ := blk2 (blk_below (blk_below HD1.out HB5.out) hb6)
         clear hb6)
      | (go_at_call 92; with_reducible (refine Calls.mono (H4.out _) ?_); rintro e w7 ⟨rfl, hb7⟩
         have HB7 : Hid (Below _ _ w7) := hb7
         obtain ⟨a0, a1, -, -⟩ := blk2 (blk_below (blk_below (blk_below HD0.out HB5.out) HB6.out) hb7)
         obtain ⟨b0, b1, -, -⟩ := blk2 (blk_below (blk_below (blk_below HD1.out HB5.out) HB6.out) hb7)
         clear hb7))
  have HZ : Hid (Below w.heap.size w w7) := ((HY.out.trans (HB5.out.mono HY.out.size)).trans (HB6.out.mono (Nat.le_trans HY.out.size HB5.out.size))).trans (HB7.out.mono (Nat.le_trans (Nat.le_trans HY.out.size HB5.out.size) HB6.out.size))
  clear HB5 HB6 HB7 HY HD0 HD1 H2 H3 H4 a0 a1 b0 b1
  have i0 := c_ix0 d2 u2 d3 u3 d4 u4
  have i1 := c_ix1 d2 u2 d3 u3 d4 u4
  have i2 := c_ix2 d2 u2 d3 u3 d4 u4
  unfold MinF at m1 m2 m3
  unfold MaxF at x1 x2 x3
  go_wp2_with fail
  refine wp_loop_rounds 4 ?_
  rw [rounds_succ]
  go_wp2_with fail
  go_region
  go_wp2_with fail
  rw [rounds_succ]
  go_wp2_with fail
  go_region
  go_wp2_with fail
  rw [rounds_succ]
  go_wp2_with fail
  go_region
  go_wp2_with fail
  rw [rounds_succ]
  go_wp2_with fail
  have hZ8 : Below w.heap.size w (((w7.alloc (Obj.cells #[.float .f64 d2, .float .f64 u2] 130)).alloc (Obj.cells #[.float .f64 d3, .float .f64 u3] 130)).alloc (Obj.cells #[.float .f64 d4, .float .f64 u4] 130)).drew.drew.drew := (((HZ.out.alloc HZ.out.size _).alloc (by have := HZ.out.size; simp; omega) _).alloc (by have := HZ.out.size; simp; omega) _).drew.drew.drew
  refine bodyPost_ret (v := .tuple #[.float .f64 lo, .float .f64 hi]) (by simp [results, Tryz.results91, go_sem]) rfl ?_
  exact ⟨rfl, hZ8⟩
end Go.Proofs.YtonhpkigoplmaaaGreatDoor
namespace Go.Proofs.YtonhpkigoplmaaaGreatDoor
open Go.RowKit Go.Extern Ieee
attribute [local go_sem] run_store_float

set_option maxRecDepth 100000 in
set_option maxHeartbeats 4000000 in
theorem corners_quo (al ah bl bh d1 u1 d2 u2 d3 u3 d4 u4 l2 l3 lo g2 g3 hi : Nat) (w : World)
    (m1 : MinF d1 d2 l2) (m2 : MinF l2 d3 l3) (m3 : MinF l3 d4 lo) (x1 : MaxF u1 u2 g2) (x2 : MaxF g2 u3 g3) (x3 : MaxF g3 u4 hi)
    (h1 : Gives 94 #[.float .f64 al, .float .f64 bl] d1 u1) (h2 : Gives 94 #[.float .f64 al, .float .f64 bh] d2 u2) (h3 : Gives 94 #[.float .f64 ah, .float .f64 bl] d3 u3) (h4 : Gives 94 #[.float .f64 ah, .float .f64 bh] d4 u4) :
    Calls Tryz.prog 91 #[.func (.func 94) #[] #[], .agg #[.float .f64 al, .float .f64 ah], .agg #[.float .f64 bl, .float .f64 bh]] w fun ev w' => ev = .returned (.tuple #[.float .f64 lo, .float .f64 hi]) ∧ Below w.heap.size w w' := by
  have H1 : Hid (∀ w, Calls Tryz.prog 94 #[.float .f64 al, .float .f64 bl] w fun ev w' => ev = .returned (.agg #[.float .f64 d1, .float .f64 u1]) ∧ Below w.heap.size w w') := h1
  have H2 : Hid (∀ w, Calls Tryz.prog 94 #[.float .f64 al, .float .f64 bh] w fun ev w' => ev = .returned (.agg #[.float .f64 d2, .float .f64 u2]) ∧ Below w.heap.size w w') := h2
  have H3 : Hid (∀ w, Calls Tryz.prog 94 #[.float .f64 ah, .float .f64 bl] w fun ev w' => ev = .returned (.agg #[.float .f64 d3, .float .f64 u3]) ∧ Below w.heap.size w w') := h3
  have H4 : Hid (∀ w, Calls Tryz.prog 94 #[.float .f64 ah, .float .f64 bh] w fun ev w' => ev = .returned (.agg #[.float .f64 d4, .float .f64 u4]) ∧ Below w.heap.size w w') := h4
  have f0 := c_fld0
  have f1 := c_fld1
  clear h1 h2 h3 h4
  go_enter Tryz.func91, Tryz.ntmps91
  go_wp2_with fail
  have B0 := blk_old (blk_new w (Obj.cells #[.float .f64 al, .float .f64 ah] 67)) (Obj.cells #[.float .f64 bl, .float .f64 bh] 67)
  have B1 := blk_new (w.alloc (Obj.cells #[.float .f64 al, .float .f64 ah] 67)) (Obj.cells #[.float .f64 bl, .float .f64 bh] 67)
  have hW : Below w.heap.size w ((w.alloc (Obj.cells #[.float .f64 al, .float .f64 ah] 67)).alloc (Obj.cells #[.float .f64 bl, .float .f64 bh] 67)) := ((Below.refl _ _).alloc (Nat.le_refl _) _).alloc (by simp) _
  simp only [World.size_alloc] at B1
  generalize ((w.alloc (Obj.cells #[.float .f64 al, .float .f64 ah] 67)).alloc (Obj.cells #[.float .f64 bl, .float .f64 bh] 67)) = W2 at *
  refine Calls.mono (H1.out _) ?_
  rintro e w3 ⟨rfl, hb3⟩
  have C0 := blk_old (blk_below B0 hb3) (Obj.cells #[.float .f64 d1, .float .f64 u1] 130)
  have C1 := blk_old (blk_below B1 hb3) (Obj.cells #[.float .f64 d1, .float .f64 u1] 130)
  have hX : Below w.heap.size w ((w3.alloc (Obj.cells #[.float .f64 d1, .float .f64 u1] 130)).drew) := ((hW.trans (hb3.mono hW.size)).alloc (Nat.le_trans hW.size hb3.size) _).drew
  clear B0 B1 hb3 hW H1
  go_wp2_with fail
  go_region
  have HC0 : Hid ((w3.alloc (Obj.cells #[.float .f64 d1, .float .f64 u1] 130)).drew.heap[w.heap.size]? = _) := C0
  have HC1 : Hid ((w3.alloc (Obj.cells #[.float .f64 d1, .float .f64 u1] 130)).drew.heap[w.heap.size + 1]? = _) := C1
  have HX : Hid (Below w.heap.size w (w3.alloc (Obj.cells #[.float .f64 d1, .float .f64 u1] 130)).drew) := hX
  clear C0 C1 hX
  generalize (w3.alloc (Obj.cells #[.float .f64 d1, .float .f64 u1] 130)).drew = W4 at *
  obtain ⟨a0, a1, -, -⟩ := blk2 HC0.out
  obtain ⟨b0, b1, -, -⟩ := blk2 HC1.out
  go_wp2_with fail
  have HD0 : Hid (W4.drew.heap[w.heap.size]? = _) := HC0.out
  have HD1 : Hid (W4.drew.heap[w.heap.size + 1]? = _) := HC1.out
  have HY : Hid (Below w.heap.size w W4.drew) := HX.out.drew
  clear HC0 HC1 HX
  go_region_held3 (fun W => W.cell? ⟨w.heap.size, 0, none⟩ = some (.float .f64 al) ∧ W.cell? ⟨w.heap.size, 1, none⟩ = some (.float .f64 ah) ∧ W.cell? ⟨w.heap.size + 1, 0, none⟩ = some (.float .f64 bl) ∧ W.cell? ⟨w.heap.size + 1, 1, none⟩ = some (.float .f64 bh)) (first | (go_keep; done) | (refine ⟨?_, ?_, ?_, ?_⟩ <;> first | (go_keep; done) | assumption))
    (first
      | (go_at_call 94; with_reducible (refine Calls.mono (H2.out _) ?_); rintro e w5 ⟨rfl, hb5⟩
         have HB5 : Hid (Below _ _ w5) := hb5
         obtain ⟨a0, a1, -, -⟩ := blk2 (blk_below HD0.out hb5)
         obtain ⟨b0, b1, -, -⟩ := blk2 (blk_below HD1.out hb5)
         clear hb5)
      | (go_at_call 94; with_reducible (refine Calls.mono (H3.out _) ?_); rintro e w6 ⟨rfl, hb6⟩
         have HB6 : Hid (Below _ _ w6) := hb6
         obtain ⟨a0, a1, -, -⟩ := blk2 (blk_below (blk_below HD0.out HB5.out) hb6)
         obtain ⟨b0, b1, -, -⟩ := blk2 (blk_below (blk_below HD1.out HB5.out) hb6)
         clear hb6)
      | (go_at_call 94; with_reducible (refine Calls.mono (H4.out _) ?_); rintro e w7 ⟨rfl, hb7⟩
         have HB7 : Hid (Below _ _ w7) := hb7
         obtain ⟨a0, a1, -, -⟩ := blk2 (blk_below (blk_below (blk_below HD0.out HB5.out) HB6.out) hb7)
         obtain ⟨b0, b1, -, -⟩ := blk2 (blk_below (blk_below (blk_below HD1.out HB5.out) HB6.out) hb7)
         clear hb7))
  have HZ : Hid (Below w.heap.size w w7) := ((HY.out.trans (HB5.out.mono HY.out.size)).trans (HB6.out.mono (Nat.le_trans HY.out.size HB5.out.size))).trans (HB7.out.mono (Nat.le_trans (Nat.le_trans HY.out.size HB5.out.size) HB6.out.size))
  clear HB5 HB6 HB7 HY HD0 HD1 H2 H3 H4 a0 a1 b0 b1
  have i0 := c_ix0 d2 u2 d3 u3 d4 u4
  have i1 := c_ix1 d2 u2 d3 u3 d4 u4
  have i2 := c_ix2 d2 u2 d3 u3 d4 u4
  unfold MinF at m1 m2 m3
  unfold MaxF at x1 x2 x3
  go_wp2_with fail
  refine wp_loop_rounds 4 ?_
  rw [rounds_succ]
  go_wp2_with fail
  go_region
  go_wp2_with fail
  rw [rounds_succ]
  go_wp2_with fail
  go_region
  go_wp2_with fail
  rw [rounds_succ]
  go_wp2_with fail
  go_region
  go_wp2_with fail
  rw [rounds_succ]
  go_wp2_with fail
  have hZ8 : Below w.heap.size w (((w7.alloc (Obj.cells #[.float .f64 d2, .float .f64 u2] 130)).alloc (Obj.cells #[.float .f64 d3, .float .f64 u3] 130)).alloc (Obj.cells #[.float .f64 d4, .float .f64 u4] 130)).drew.drew.drew := (((HZ.out.alloc HZ.out.size _).alloc (by have := HZ.out.size; simp; omega) _).alloc (by have := HZ.out.size; simp; omega) _).drew.drew.drew
  refine bodyPost_ret (v := .tuple #[.float .f64 lo, .float .f64 hi]) (by simp [results, Tryz.results91, go_sem]) rfl ?_
  exact ⟨rfl, hZ8⟩
end Go.Proofs.YtonhpkigoplmaaaGreatDoor
