/-
  SlvE, SlvF, SlvG, SlvH, SlvI, SlvK.
-/
import Derived.Test.YtonhpkigoplmaaaGreatDoorS14
import Derived.Deep.RegionHeld3
import Derived.Deep.LoopGhost
import Derived.WalkMore
namespace Go.Proofs.YtonhpkigoplmaaaGreatDoor
open Go.RowKit Go.Extern Ieee
attribute [local go_sem] run_store_float

/-- A row of m intervals in a block of its own. -/
def RowI (W : World) (g m : Nat) (r : Nat → Nat × Nat) : Prop := ∃ cur, W.heap[g]? = some (.cells cur 67 (0, 0)) ∧ m * 2 ≤ cur.size ∧ ∀ j, j < m → cur[j * 2]? = some (.float .f64 (r j).1) ∧ cur[j * 2 + 1]? = some (.float .f64 (r j).2)

theorem RowI.lt {W : World} {g m : Nat} {r : Nat → Nat × Nat} (h : RowI W g m r) : g < W.heap.size := by
  obtain ⟨cur, h1, _⟩ := h
  exact lt_of_row h1
theorem RowI.cell {W : World} {g m : Nat} {r : Nat → Nat × Nat} (h : RowI W g m r) {j : Nat} (hj : j < m) : W.cell? ⟨g, j * 2, none⟩ = some (.float .f64 (r j).1) ∧ W.cell? ⟨g, j * 2 + 1, none⟩ = some (.float .f64 (r j).2) ∧ W.frozen? ⟨g, j * 2, none⟩ = false ∧ W.frozen? ⟨g, j * 2 + 1, none⟩ = false := by
  obtain ⟨cur, h1, h2, h3⟩ := h
  obtain ⟨a, b⟩ := h3 j hj
  refine ⟨by rw [cell_of_cur h1]; exact a, by rw [cell_of_cur h1]; exact b, ?_, ?_⟩ <;> simp [World.frozen?, h1]
theorem RowI.below {W W' : World} {g m : Nat} {r : Nat → Nat × Nat} (h : RowI W g m r) (hb : Below W.heap.size W W') : RowI W' g m r := by
  obtain ⟨cur, h1, h2⟩ := h
  exact ⟨cur, blk_below h1 hb, h2⟩
theorem RowI.grown {W W' : World} {g g' m : Nat} {r : Nat → Nat × Nat} (h : RowI W g m r) (hg : W.grownBy W' (some g')) (hne : g ≠ g') : RowI W' g m r := by
  obtain ⟨cur, h1, h2⟩ := h
  exact ⟨cur, (hg.block g (lt_of_row h1) (fun e => hne (by cases e; rfl))).trans h1, h2⟩
theorem blk_set_cur {W : World} {g : Nat} {cur : Array Value} {t : TypeId} (h : W.heap[g]? = some (.cells cur t (0, 0))) (i : Nat) (v : Value) : (W.setCell ⟨g, i, none⟩ v).heap[g]? = some (.cells (cur.setIfInBounds i v) t (0, 0)) := by
  obtain ⟨hlt, hk⟩ := Array.getElem?_eq_some_iff.1 h
  show (W.heap.modify g _)[g]? = _
  rw [Array.getElem?_eq_getElem (by rw [Array.size_modify]; exact hlt), Array.getElem_modify_self, hk]
  rfl
theorem RowI.set {W : World} {g m : Nat} {r : Nat → Nat × Nat} (h : RowI W g m r) {j : Nat} (hj : j < m) (a b : Nat) : RowI ((W.setCell ⟨g, j * 2, none⟩ (.float .f64 a)).setCell ⟨g, j * 2 + 1, none⟩ (.float .f64 b)) g m (upd r j (a, b)) := by
  obtain ⟨cur, h1, h2, h3⟩ := h
  refine ⟨(cur.setIfInBounds (j * 2) (.float .f64 a)).setIfInBounds (j * 2 + 1) (.float .f64 b), blk_set_cur (blk_set_cur h1 _ _) _ _, by simpa using h2, fun i hi => ?_⟩
  · obtain ⟨x, y⟩ := h3 i hi
    by_cases hij : i = j
    · subst hij
      rw [upd_same]
      constructor
      · rw [Array.getElem?_setIfInBounds_ne (by omega), Array.getElem?_setIfInBounds_self_of_lt (by omega)]
      · rw [Array.getElem?_setIfInBounds_self_of_lt (by simp; omega)]
    · rw [upd_ne hij]
      constructor
      · rw [Array.getElem?_setIfInBounds_ne (by omega), Array.getElem?_setIfInBounds_ne (by omega)]; exact x
      · rw [Array.getElem?_setIfInBounds_ne (by omega), Array.getElem?_setIfInBounds_ne (by omega)]; exact y

theorem grown_of_below {w W W' : World} {g : Nat} (h : w.grownBy W (some g)) (hb : Below W.heap.size W W') : w.grownBy W' (some g) :=
  ⟨hb.os.trans h.os, hb.tape.trans h.tape, hb.output.trans h.output, Nat.le_trans h.size hb.size, fun k hk hn => (hb.block k (Nat.lt_of_lt_of_le hk h.size)).trans (h.block k hk hn)⟩

/-- A box of an interval. -/
def IBx (W : World) (g : Nat) (a b : Nat) : Prop := W.heap[g]? = some (.cells #[.float .f64 a, .float .f64 b] 67 (0, 0))

/-- A world behind another one; a box of an interval that was made since. -/
structure BTt (R W : World) : Prop where
  hb : Below R.heap.size R W
theorem BTt.below {R W W' : World} (m : BTt R W) (hb : Below W.heap.size W W') : BTt R W' := ⟨m.hb.trans (hb.mono m.hb.size)⟩
theorem BTt.alloc {R W : World} (m : BTt R W) (o : Obj) : BTt R (W.alloc o) := ⟨m.hb.alloc m.hb.size o⟩
theorem BTt.drew {R W : World} (m : BTt R W) : BTt R W.drew := ⟨m.hb.drew⟩
def QI (R W : World) (g : Nat) (x y : Nat) : Prop := IBx W g x y ∧ R.heap.size ≤ g
theorem QI.below {R W W' : World} {g x y : Nat} (h : QI R W g x y) (hb : Below W.heap.size W W') : QI R W' g x y := ⟨blk_below h.1 hb, h.2⟩
theorem QI.drew {R W : World} {g x y : Nat} (h : QI R W g x y) : QI R W.drew g x y := h
theorem QI.new {R W : World} {x y : Nat} (m : BTt R W) : QI R (W.alloc (Obj.cells #[.float .f64 x, .float .f64 y] 67)) W.heap.size x y := ⟨blk_new W _, m.hb.size⟩
theorem QI.same {R W : World} {g x y : Nat} (h : QI R W g x y) (u v : Nat) : QI R ((W.setCell ⟨g, 0, none⟩ (.float .f64 u)).setCell ⟨g, 1, none⟩ (.float .f64 v)) g u v := ⟨blk_store2 h.1, h.2⟩
theorem BTt.set2 {R W : World} {g x y : Nat} (m : BTt R W) (z : QI R W g x y) (u v : Nat) : BTt R ((W.setCell ⟨g, 0, none⟩ (.float .f64 u)).setCell ⟨g, 1, none⟩ (.float .f64 v)) := ⟨(m.hb.setCell (by exact z.2) _).setCell (by exact z.2) _⟩
theorem BTt.cell {R W : World} (m : BTt R W) {b o : Nat} {v : Value} (h : R.cell? ⟨b, o, none⟩ = some v) : W.cell? ⟨b, o, none⟩ = some v := by
  rw [m.hb.cell (by exact lt_of_cell h)]; exact h
theorem BTt.cell4 {R W : World} (m : BTt R W) {b o b' o' b2 o2 b3 o3 : Nat} {v v' v2 v3 : Value} (h : R.cell? ⟨b, o, none⟩ = some v ∧ R.cell? ⟨b', o', none⟩ = some v' ∧ R.cell? ⟨b2, o2, none⟩ = some v2 ∧ R.cell? ⟨b3, o3, none⟩ = some v3) : W.cell? ⟨b, o, none⟩ = some v ∧ W.cell? ⟨b', o', none⟩ = some v' ∧ W.cell? ⟨b2, o2, none⟩ = some v2 ∧ W.cell? ⟨b3, o3, none⟩ = some v3 := ⟨m.cell h.1, m.cell h.2.1, m.cell h.2.2.1, m.cell h.2.2.2⟩

/-- Where takeFrom stands: the row that changes, the one that is taken from it. -/
structure TkS (w0 w W : World) (g1 g2 m : Nat) (r br : Nat → Nat × Nat) : Prop where
  hg : w.grownBy W (some g1)
  r1 : RowI W g1 m r
  r2 : RowI W g2 m br
  hb : Below w0.heap.size w0 W
  ne : g1 ≠ g2
  ge : w0.heap.size ≤ g1
theorem TkS.below {w0 w W W' : World} {g1 g2 m : Nat} {r br : Nat → Nat × Nat} (s : TkS w0 w W g1 g2 m r br) (hb : Below W.heap.size W W') : TkS w0 w W' g1 g2 m r br :=
  ⟨grown_of_below s.hg hb, s.r1.below hb, s.r2.below hb, s.hb.trans (hb.mono s.hb.size), s.ne, s.ge⟩
theorem TkS.set {w0 w W : World} {g1 g2 m : Nat} {r br : Nat → Nat × Nat} (s : TkS w0 w W g1 g2 m r br) {j : Nat} (hj : j < m) (a b : Nat) : TkS w0 w ((W.setCell ⟨g1, j * 2, none⟩ (.float .f64 a)).setCell ⟨g1, j * 2 + 1, none⟩ (.float .f64 b)) g1 g2 m (upd r j (a, b)) br :=
  have h := grown_trans (grown_set W g1 (j * 2) (.float .f64 a)) (grown_set _ g1 (j * 2 + 1) (.float .f64 b))
  ⟨grown_trans s.hg h, s.r1.set hj a b, s.r2.grown h (fun e => s.ne e.symm), (s.hb.setCell (by exact s.ge) _).setCell (by exact s.ge) _, s.ne, s.ge⟩
end Go.Proofs.YtonhpkigoplmaaaGreatDoor
namespace Go.Proofs.YtonhpkigoplmaaaGreatDoor
open Go.RowKit Go.Extern Ieee
attribute [local go_sem] run_store_float

theorem lp_iv {a b c d : Nat × Nat} (h : lpX muX suX a b c = some d) (ha : ivW a) : ivW d := by
  unfold lpX at h
  obtain ⟨t, h1, h2⟩ := Option.bind_eq_some_iff.1 h
  exact su_iv ha (mu_iv h1) h2

set_option maxHeartbeats 8000000 in
set_option maxRecDepth 100000 in
theorem takeFrom_walk (A : Nat → Addr) (g1 g2 m c1 c2 k : Nat) (row br : Nat → Nat × Nat) (w0 w : World) (lo hi : Nat) (rq : Option (Nat × Nat)) (RES : Option (Nat → Nat × Nat))
    (s : TkS w0 w w g1 g2 m row br) (hkm : k < m) (hm : m ≤ 100) (xl xh yl yh : Nat) (ex : row k = (xl, xh)) (ey : br k = (yl, yh))
    (hc : ∀ W, Calls Tryz.prog 91 #[.func (.func 94) #[] #[], .agg #[.float .f64 xl, .float .f64 xh], .agg #[.float .f64 yl, .float .f64 yh]] W fun ev w' => ev = .returned (.tuple #[.float .f64 lo, .float .f64 hi]) ∧ Below W.heap.size W w')
    (hw : ∀ W, Below w0.heap.size w0 W → Calls Tryz.prog 159 #[.float .f64 lo, .float .f64 hi] W fun ev w' => SvR A W rq ev w')
    (hl : ∀ W al ah bl_ bh cl ch, Below w0.heap.size w0 W → Iv al ah → Iv bl_ bh → Iv cl ch → Calls Tryz.prog 158 #[.agg #[.float .f64 al, .float .f64 ah], .agg #[.float .f64 bl_, .float .f64 bh], .agg #[.float .f64 cl, .float .f64 ch]] W fun ev w' => SvR A W (lpX muX suX (al, ah) (bl_, bh) (cl, ch)) ev w')
    (hR0 : rq = none → RES = none) (hR1 : ∀ t, rq = some t → ivW t ∧ RES = takeJ muX suX t br (m - (k + 1)) (k + 1) row) (i1 : ∀ j, k ≤ j → j < m → ivW (row j)) (i2 : ∀ j, k ≤ j → j < m → ivW (br j)) :
    Calls Tryz.prog 157 #[.slice (some ⟨g1, 0, none⟩) m c1, .slice (some ⟨g2, 0, none⟩) m c2, .int .i64 (k : Int)] w fun e w' => ∃ r', TkS w0 w w' g1 g2 m r' br ∧ (RES = some r' ∧ e = .returned .nilIface ∧ (∀ j, k ≤ j → j < m → ivW (r' j)) ∨ RES = none ∧ e = .returned (.iface 229 (.pointer (some (A 8))))) := by
  have HC := hid' hc
  have HW := hid' hw
  have HL := hid' hl
  have HR0 := hid' hR0
  have HR1 := hid' hR1
  have I1 := hid' i1
  have I2 := hid' i2
  have SS := hid' s
  have hg1l := s.r1.lt
  obtain ⟨a1, a2, -, -⟩ := s.r1.cell hkm
  obtain ⟨b1, b2, -, -⟩ := s.r2.cell hkm
  rw [ex] at a1 a2
  rw [ey] at b1 b2
  clear hc hw hl hR0 hR1 i1 i2 s ex ey
  have hq : w.cell? ⟨g1, k * 2, none⟩ = some (.float .f64 xl) ∧ w.cell? ⟨g1, k * 2 + 1, none⟩ = some (.float .f64 xh) ∧ w.cell? ⟨g2, k * 2, none⟩ = some (.float .f64 yl) ∧ w.cell? ⟨g2, k * 2 + 1, none⟩ = some (.float .f64 yh) := ⟨a1, a2, b1, b2⟩
  go_enter Tryz.func157, Tryz.ntmps157
  go_wp2_with fail
  go_cut [7, 8] (fun s7 s8 wc => ∃ gt tl th, s7 = .pointer (some ⟨gt, 0, none⟩) ∧ BTt w wc ∧ QI w wc gt tl th ∧ (rq = some (tl, th) ∧ s8 = .nilIface ∨ rq = none ∧ s8 = .iface 229 (.pointer (some (A 8)))))
  case first =>
    have m1 : Hid (BTt w w) := ⟨Below.refl _ _⟩
    have iN : Hid (BTt w w.drew) := m1.out.drew
    go_region_held3 (fun W => W.cell? ⟨g1, k * 2, none⟩ = some (.float .f64 xl) ∧ W.cell? ⟨g1, k * 2 + 1, none⟩ = some (.float .f64 xh) ∧ W.cell? ⟨g2, k * 2, none⟩ = some (.float .f64 yl) ∧ W.cell? ⟨g2, k * 2 + 1, none⟩ = some (.float .f64 yh)) (first | with_reducible exact iN.out.cell4 hq | with_reducible exact (iN.out.alloc _).cell4 hq | with_reducible exact (m1.out.alloc _).drew.cell4 hq | with_reducible exact (iN.out.set2 zf.out _ _).cell4 hq)
      (first
        | (go_at_call 91; with_reducible (refine Calls.mono (HC.out _) ?_); rintro e v0 ⟨rfl, hbk⟩
           try (have zf : Hid (QI w v0 _ _ _) := zf.out.below hbk)
           have iN : Hid (BTt w v0) := iN.out.below hbk
           clear hbk)
        | (go_at_call 91; with_reducible (refine Calls.mono (HC.out _) ?_); rintro e v0 ⟨rfl, hbk⟩
           have zf : Hid (QI w v0 _ _ _) := (QI.new m1.out).drew.below hbk
           have iN : Hid (BTt w v0) := (m1.out.alloc _).drew.below hbk
           clear hbk)
        | (go_at_call 159; with_reducible (refine Calls.mono (HW.out _ ?_) ?_); (with_reducible exact SS.out.hb.trans (iN.out.hb.mono SS.out.hb.size)); (intro e v1 hsv); (unfold SvR at hsv); (obtain ⟨tl, th, v, rfl, hbk, hor⟩ := hsv)
           have HO := hid' hor
           try (have zf : Hid (QI w v1 _ _ _) := zf.out.below hbk; obtain ⟨zc0, zc1, zc2, zc3⟩ := blk2 zf.out.1)
           have iN : Hid (BTt w v1) := iN.out.below hbk
           clear hbk hor)
        | (go_at_call 159; with_reducible (refine Calls.mono (HW.out _ ?_) ?_); (with_reducible exact SS.out.hb.trans ((iN.out.alloc _).hb.mono SS.out.hb.size)); (intro e v1 hsv); (unfold SvR at hsv); (obtain ⟨tl, th, v, rfl, hbk, hor⟩ := hsv)
           have HO := hid' hor
           have zf : Hid (QI w v1 _ _ _) := (QI.new iN.out).below hbk
           obtain ⟨zc0, zc1, zc2, zc3⟩ := blk2 zf.out.1
           have iN : Hid (BTt w v1) := (iN.out.alloc _).below hbk
           clear hbk hor))
    all_goals (go_wp2_with fail; go_meet; refine ⟨_, _, _, rfl, ?_, ?_, HO.out⟩)
    all_goals first | with_reducible exact iN.out.set2 zf.out _ _ | with_reducible exact zf.out.same _ _ | with_reducible exact iN.out.alloc _ | with_reducible exact QI.new iN.out
  case rest =>
    obtain ⟨gt, tl, th, rfl, hB, hQ, hor⟩ := hcut
    have SS := hid' (SS.out.below hB.hb)
    have BX := hid' hQ.1
    have hgt : gt ≠ g1 := by have := hQ.2; omega
    clear hB hQ HC HW hq a1 a2 b1 b2 hg1l
    rcases hor with ⟨e1, rfl⟩ | ⟨e1, rfl⟩
    · obtain ⟨it, er⟩ := HR1.out _ e1
      have IT : Hid (Iv tl th) := it
      have ER := hid' er
      clear HR0 HR1 it er e1
      go_wp2_with fail
      go_loopw [8, 9] (fun _ x wr => ∃ (j : Nat) (r : Nat → Nat × Nat), k + 1 ≤ j ∧ j ≤ m ∧ x = .int .i64 (j : Int) ∧ TkS w0 w wr g1 g2 m r br ∧ IBx wr gt tl th ∧ takeJ muX suX (tl, th) br (m - j) j r = RES ∧ ∀ i, k ≤ i → i < m → ivW (r i)) (fun _ x _ => m - (intOf x).toNat)
      case atStart => exact ⟨k + 1, row, Nat.le_refl _, hkm, by go_num, SS.out, BX.out, ER.out.symm, I1.out⟩
      case round =>
        obtain ⟨j, r, hj1, hj2, rfl, hs, hbx, hres, hiv⟩ := hrel
        have SS := hid' hs
        have BX := hid' hbx
        have RS := hid' hres
        have IV := hid' hiv
        clear hs hbx hres hiv ER I1
        by_cases hjm : j < m
        · obtain ⟨a1, a2, a3, a4⟩ := SS.out.r1.cell hjm
          obtain ⟨b1, b2, -, -⟩ := SS.out.r2.cell hjm
          obtain ⟨t1, t2, -, -⟩ := blk2 BX.out
          have ia : Hid (Iv (r j).1 (r j).2) := IV.out j (by omega) hjm
          have ib : Hid (Iv (br j).1 (br j).2) := I2.out j (by omega) hjm
          have ET : Hid (takeJ muX suX (tl, th) br (m - j) j r = (lpX muX suX (r j) (tl, th) (br j)).bind fun c => takeJ muX suX (tl, th) br (m - (j + 1)) (j + 1) (upd r j c)) := by
            show _ = _
            rw [show m - j = (m - (j + 1)) + 1 by omega]; rfl
          have ep : ∀ x : Nat × Nat, x = (x.1, x.2) := fun x => rfl
          rw [ep (r j), ep (br j)] at ET
          generalize (r j).1 = al at *
          generalize (r j).2 = ah at *
          generalize (br j).1 = bl_ at *
          generalize (br j).2 = bh at *
          clear ep
          have hq : wr.cell? ⟨g1, j * 2, none⟩ = some (.float .f64 al) ∧ wr.cell? ⟨g1, j * 2 + 1, none⟩ = some (.float .f64 ah) ∧ wr.cell? ⟨g2, j * 2, none⟩ = some (.float .f64 bl_) ∧ wr.cell? ⟨g2, j * 2 + 1, none⟩ = some (.float .f64 bh) := ⟨a1, a2, b1, b2⟩
          have hq2 : wr.cell? ⟨gt, 0, none⟩ = some (.float .f64 tl) ∧ wr.cell? ⟨gt, 1, none⟩ = some (.float .f64 th) := ⟨t1, t2⟩
          go_wp2_with fail
          go_cut [8] (fun s8 wc => ∃ ul uh, TkS w0 w wc g1 g2 m (upd r j (ul, uh)) br ∧ IBx wc gt tl th ∧ (lpX muX suX (al, ah) (tl, th) (bl_, bh) = some (ul, uh) ∧ s8 = .nilIface ∨ lpX muX suX (al, ah) (tl, th) (bl_, bh) = none ∧ s8 = .iface 229 (.pointer (some (A 8)))))
          case first =>
            have m1 : Hid (BTt wr wr) := ⟨Below.refl _ _⟩
            have iN : Hid (BTt wr wr.drew) := m1.out.drew
            have HLL : Hid (∀ W, BTt wr W → Calls Tryz.prog 158 #[.agg #[.float .f64 al, .float .f64 ah], .agg #[.float .f64 tl, .float .f64 th], .agg #[.float .f64 bl_, .float .f64 bh]] W fun ev w' => SvR A W (lpX muX suX (al, ah) (tl, th) (bl_, bh)) ev w') := fun W hW => HL.out W _ _ _ _ _ _ (SS.out.hb.trans (hW.hb.mono SS.out.hb.size)) ia.out IT.out ib.out
            go_region_with (first
              | (go_at_call 158; refine Calls.mono (HLL.out _ ?_) ?_; (exact iN.out); (intro e v0 hsv)
                 (unfold SvR at hsv); (obtain ⟨ul, uh, v, rfl, hbk, hor⟩ := hsv)
                 have HO := hid' hor
                 have iN : Hid (BTt wr v0) := iN.out.below hbk
                 obtain ⟨y1, y2, y3, y4⟩ := (SS.out.below iN.out.hb).r1.cell hjm
                 clear hbk hor))
            all_goals (go_wp2_with fail; go_meet; exact ⟨ul, uh, (SS.out.below iN.out.hb).set hjm ul uh, blk_set_ne (blk_set_ne (blk_below BX.out iN.out.hb) hgt) hgt, HO.out⟩)
          case rest =>
            obtain ⟨ul, uh, hs, hbx, hor⟩ := hcut
            have SS := hid' hs
            have BX := hid' hbx
            clear hs hbx hq hq2 a1 a2 a3 a4 b1 b2 t1 t2
            rcases hor with ⟨e1, rfl⟩ | ⟨e1, rfl⟩
            · have RS2 : Hid (takeJ muX suX (tl, th) br (m - (j + 1)) (j + 1) (upd r j (ul, uh)) = RES) := by
                show _ = _
                rw [← RS.out, ET.out, e1]; rfl
              have IV2 : Hid (∀ i, k ≤ i → i < m → ivW (upd r j (ul, uh) i)) := by
                intro i a b
                by_cases hij : i = j
                · subst hij
                  rw [upd_same]
                  exact lp_iv e1 ia.out
                · rw [upd_ne hij]; exact IV.out i a b
              clear e1 RS ET IV ia ib IT HL I2
              go_wp2
              go_roundw
              case rel => exact ⟨j + 1, _, by omega, by omega, by go_num, SS.out, BX.out, RS2.out, IV2.out⟩
              case measure => simp [intOf]; omega
            · have RS2 : Hid (RES = none) := by
                show _ = _
                rw [← RS.out, ET.out, e1]; rfl
              clear e1 RS ET IV ia ib IT HL I2
              go_wp2
              go_ret
              exact ⟨_, SS.out, .inr ⟨RS2.out, rfl⟩⟩
        · have RS2 : Hid (RES = some r) := by
            show _ = _
            rw [← RS.out, show m - j = 0 by omega]; rfl
          clear RS HL I2 BX IT
          go_wp2
          go_ret
          exact ⟨r, SS.out, .inl ⟨RS2.out, rfl, IV.out⟩⟩
    · have RS2 := hid' (HR0.out e1)
      clear HR0 HR1 HL I2 BX I1 e1
      go_wp2
      go_ret
      exact ⟨row, SS.out, .inr ⟨RS2.out, rfl⟩⟩

theorem takeFrom_any (A : Nat → Addr) (g1 g2 m c1 c2 k n : Nat) (row br : Nat → Nat × Nat) (w0 w : World) (hS : Sents A w0) (s : TkS w0 w w g1 g2 m row br) (hkm : k < m) (hm : m ≤ 100) (hmn : m = n + 1) (i1 : ∀ j, k ≤ j → j < m → ivW (row j)) (i2 : ∀ j, k ≤ j → j < m → ivW (br j)) (hz : ¬ memW (br k) 0) :
    Calls Tryz.prog 157 #[.slice (some ⟨g1, 0, none⟩) m c1, .slice (some ⟨g2, 0, none⟩) m c2, .int .i64 (k : Int)] w fun e w' => ∃ r', TkS w0 w w' g1 g2 m r' br ∧ (takeX muX suX quX n k row br = some r' ∧ e = .returned .nilIface ∧ (∀ j, k ≤ j → j < m → ivW (r' j)) ∨ takeX muX suX quX n k row br = none ∧ e = .returned (.iface 229 (.pointer (some (A 8))))) := by
  have hh : holdsT (plT (br k).1) (plT (br k).2) = false := by
    cases h : holdsT (plT (br k).1) (plT (br k).2)
    · rfl
    · exact absurd ((holds_val _).1 h) hz
  obtain ⟨lo, hi, p, q, f1, f2, hle, hw, hc⟩ := cornD (i1 k (Nat.le_refl _) hkm) (i2 k (Nat.le_refl _) hkm) hh
  have hu : takeX muX suX quX n k row br = (quX (row k) (br k)).bind fun t => takeJ muX suX t br (m - (k + 1)) (k + 1) row := by unfold takeX; rw [show n - k = m - (k + 1) by omega]
  refine takeFrom_walk A g1 g2 m c1 c2 k row br w0 w lo hi (quX (row k) (br k)) _ s hkm hm _ _ _ _ rfl rfl hc (fun W hb => ?_) (fun W al ah bl_ bh cl ch hb ia ib ic => lessProduct_any A W (hS.below hb (Nat.le_refl _)) ia ib ic) (fun h => by rw [hu, h]; rfl) (fun t h => ⟨?_, by rw [hu, h]; rfl⟩) i1 i2
  · have : quX (row k) (br k) = wideX p q := hw.symm
    rw [this]
    exact widened_any A lo hi p q W (hS.below hb (Nat.le_refl _)) f1 f2 hle
  · exact ((corn_ends (f := quoN) (a := row k) (b := br k) (g := fun i j => valW i / valW j) (br_quoW (i1 k (Nat.le_refl _) hkm) (i2 k (Nat.le_refl _) hkm) hz)).1 t h).1
end Go.Proofs.YtonhpkigoplmaaaGreatDoor
namespace Go.Proofs.YtonhpkigoplmaaaGreatDoor
open Go.RowKit Go.Extern Ieee
attribute [local go_sem] run_store_float

/-- The equations' rows in memory: a list of lists, each in a block of its own. -/
structure Mat (W : World) (gr n : Nat) (gb cap : Nat → Nat) (M : Nat → Nat → Nat × Nat) : Prop where
  blk : ∃ cur, W.heap[gr]? = some (.cells cur 86 (0, 0)) ∧ n ≤ cur.size ∧ ∀ i, i < n → cur[i]? = some (.slice (some ⟨gb i, 0, none⟩) (n + 1) (cap i))
  rows : ∀ i, i < n → RowI W (gb i) (n + 1) (M i)
  inj : ∀ i j, i < n → j < n → i ≠ j → gb i ≠ gb j
  caps : ∀ i, i < n → n + 1 ≤ cap i

theorem Mat.below {W W' : World} {gr n : Nat} {gb cap : Nat → Nat} {M : Nat → Nat → Nat × Nat} (m : Mat W gr n gb cap M) (hb : Below W.heap.size W W') : Mat W' gr n gb cap M := by
  obtain ⟨cur, h1, h2⟩ := m.blk
  exact ⟨⟨cur, blk_below h1 hb, h2⟩, fun i hi => (m.rows i hi).below hb, m.inj, m.caps⟩
theorem Mat.head {W : World} {gr n : Nat} {gb cap : Nat → Nat} {M : Nat → Nat → Nat × Nat} (m : Mat W gr n gb cap M) {i : Nat} (hi : i < n) : W.cell? ⟨gr, i, none⟩ = some (.slice (some ⟨gb i, 0, none⟩) (n + 1) (cap i)) ∧ W.frozen? ⟨gr, i, none⟩ = false := by
  obtain ⟨cur, h1, h2, h3⟩ := m.blk
  refine ⟨by rw [cell_of_cur h1]; exact h3 i hi, by simp [World.frozen?, h1]⟩

theorem leq_nn {x y : Nat} (hx : NN x) (hy : NN y) : FloatKind.f64.format.order x y = some (compare (x : Int) (y : Int)) := by
  have := ordK (d := x) (f := y) (by have := hx.le; omega) (by have := hx.le; omega) (by have := hy.le; omega) (by have := hy.le; omega)
  rw [hx.kw, hy.kw] at this
  exact this

/-- 'at', as the program has it. -/
def atV (a : Option Nat) : Int := match a with | none => -1 | some i => (i : Int)

set_option maxHeartbeats 8000000 in
set_option maxRecDepth 100000 in
theorem pivot_any (A : Nat → Addr) (gr n cr k : Nat) (gb cap : Nat → Nat) (M : Nat → Nat → Nat × Nat) (w : World) (hS : Sents A w) (hM : Mat w gr n gb cap M) (hk : k < n) (hn : n ≤ 100) (iv : ∀ i j, k ≤ i → i < n → k ≤ j → j < n → ivW (M i j)) :
    Calls Tryz.prog 156 #[.slice (some ⟨gr, 0, none⟩) n cr, .int .i64 (k : Int)] w fun e w' => Below w.heap.size w w' ∧ ((∃ a, pvX M n k = some a ∧ e = .returned (.tuple #[.int .i64 (a : Int), .nilIface])) ∨ pvX M n k = none ∧ e = .returned (.tuple #[.int .i64 0, .iface 229 (.pointer (some (A 8)))])) := by
  have HM := hid' hM
  have HS := hid' hS
  have IV := hid' iv
  clear hM hS iv
  go_enter Tryz.func156, Tryz.ntmps156
  go_wp2_with fail
  go_step3
  go_wp2_with fail
  go_step3
  go_wp2_with fail
  go_loopg [6, 7, 8] (n - k) (fun gg y6 y7 y8 wr => ∃ (i best : Nat) (at_ : Option Nat), k ≤ i ∧ i ≤ n ∧ gg = n - i ∧ y8 = .int .i64 (i : Int) ∧ y6 = .float .f64 best ∧ y7 = .int .i64 (atV at_) ∧ NN best ∧ pvI M n k (n - i) i best at_ = pvX M n k ∧ Below w.heap.size w wr)
  case atStart => exact ⟨k, 0, none, Nat.le_refl _, by omega, rfl, rfl, rfl, rfl, ⟨by decide⟩, rfl, Below.refl _ _⟩
  case round =>
    obtain ⟨i, best, at_, hi1, hi2, hgk, rfl, rfl, rfl, hnb, hpv, hb⟩ := hrel
    have HNB := hid' hnb
    have HPV := hid' hpv
    have HB := hid' hb
    clear hnb hpv hb
    by_cases hin : i < n
    · have MM := hid' (HM.out.below HB.out)
      obtain ⟨h1, -⟩ := MM.out.head hin
      obtain ⟨r1, r2, -, -⟩ := (MM.out.rows i hin).cell (j := k) (by omega)
      have ik : Hid (Iv (M i k).1 (M i k).2) := IV.out i k hi1 hin (Nat.le_refl _) hk
      have HL : Hid (∀ W, Calls Tryz.prog 177 #[.agg #[.float .f64 (M i k).1, .float .f64 (M i k).2]] W fun e w' => e = .returned (.float .f64 (lsW (M i k))) ∧ Below W.heap.size W w') := fun W => least_any ik.out W
      have hpl := hid' (ls_ok (a := M i k) ik.out).1
      have EP : Hid (pvI M n k (n - i) i best at_ = if lsW (M i k) = 0 then pvI M n k (n - (i + 1)) (i + 1) best at_ else match shJ (M i) (lsW (M i k)) best (n - k) k 4607182418800017408 with | none => pvI M n k (n - (i + 1)) (i + 1) best at_ | some s => pvI M n k (n - (i + 1)) (i + 1) s (some i)) := by
        show _ = _
        rw [show n - i = (n - (i + 1)) + 1 by omega]; rfl
      generalize lsW (M i k) = least at *
      generalize (M i k).1 = al at *
      generalize (M i k).2 = ah at *
      clear ik
      go_wp2_with fail
      refine Calls.mono (HL.out _) ?_
      rintro e w1 ⟨rfl, hb1⟩
      have HB1 := hid' (HB.out.trans (hb1.mono HB.out.size))
      have MM := hid' (MM.out.below hb1)
      clear HB HL h1 r1 r2 hb1
      have o0 : FloatKind.f64.format.order least 0 = some (compare (least : Int) ((0 : Nat) : Int)) := leq_nn hpl.out.nn ⟨by decide⟩
      by_cases hl0 : least = 0
      · rw [cmp_eq' (show (least : Int) = ((0 : Nat) : Int) by omega)] at o0
        have EP2 : Hid (pvI M n k (n - (i + 1)) (i + 1) best at_ = pvX M n k) := by
          show _ = _
          rw [← HPV.out, EP.out, if_pos hl0]
        clear EP HPV MM IV
        go_wp2
        go_roundg (n - (i + 1))
        case rel => exact ⟨i + 1, best, at_, by omega, by omega, rfl, by go_num, rfl, rfl, HNB.out, EP2.out, HB1.out⟩
        case measure => omega
      · rw [cmp_gt' (show ((0 : Nat) : Int) < (least : Int) by omega)] at o0
        have EP2 : Hid ((match shJ (M i) least best (n - k) k 4607182418800017408 with | none => pvI M n k (n - (i + 1)) (i + 1) best at_ | some s => pvI M n k (n - (i + 1)) (i + 1) s (some i)) = pvX M n k) := by
          show _ = _
          rw [← HPV.out, EP.out, if_neg hl0]
        clear EP HPV
        obtain ⟨h1, -⟩ := MM.out.head hin
        have hcap := MM.out.caps i hin
        have IV2 : Hid (∀ j, j < n - k → ivW (M i (k + j))) := fun j hj => IV.out i (k + j) hi1 hin (by omega) (by omega)
        have hk2 : k ≤ n := by omega
        have hk3 : n ≤ cap i := by omega
        clear IV
        generalize hsh : shJ (M i) least best (n - k) k 4607182418800017408 = SH at *
        have HSH := hid' hsh
        clear hsh
        go_wp2_with fail
        go_loopg [10, 39] (n - k) (fun g2 y10 y39 wy => ∃ (j sh : Nat), j ≤ n - k ∧ g2 = n - k - j ∧ y39 = .int .i64 (j : Int) ∧ y10 = .float .f64 sh ∧ NN sh ∧ shJ (M i) least best (n - k - j) (k + j) sh = SH ∧ Below w.heap.size w wy ∧ Mat wy gr n gb cap M)
        case atStart => exact ⟨0, _, by omega, by omega, rfl, rfl, ⟨by decide⟩, HSH.out, HB1.out, MM.out⟩
        case round =>
          obtain ⟨j, sh, hj1, hg2, rfl, rfl, hns, hse, hbw, hmw⟩ := hrel
          have HNS := hid' hns
          have HSE := hid' hse
          have HBW := hid' hbw
          have MM := hid' hmw
          clear hns hse hbw hmw HSH HB1 h1
          by_cases hj : j < n - k
          · obtain ⟨r1, r2, -, -⟩ := (MM.out.rows i hin).cell (j := k + j) (by omega)
            rw [show (k + j) * 2 = k * 2 + j * 2 by omega] at r1 r2
            have ij : Hid (Iv (M i (k + j)).1 (M i (k + j)).2) := IV2.out j hj
            have HG : Hid (∀ W, Calls Tryz.prog 178 #[.agg #[.float .f64 (M i (k + j)).1, .float .f64 (M i (k + j)).2]] W fun e w' => e = .returned (.float .f64 (gtW (M i (k + j)))) ∧ Below W.heap.size W w') := fun W => greatest_any ij.out W
            have hgt := hid' (gt_ok (a := M i (k + j)) ij.out).1
            have ES : Hid (shJ (M i) least best (n - k - j) (k + j) sh = if kw (fmin sh (dvW least (gtW (M i (k + j))))) ≤ kw best then none else shJ (M i) least best (n - k - (j + 1)) (k + (j + 1)) (fmin sh (dvW least (gtW (M i (k + j)))))) := by
              show _ = _
              rw [show n - k - j = (n - k - (j + 1)) + 1 by omega]; rfl
            generalize gtW (M i (k + j)) = gw at *
            generalize (M i (k + j)).1 = bl_ at *
            generalize (M i (k + j)).2 = bh at *
            obtain ⟨hdv, hdn⟩ := dv_nn hpl.out hl0 hgt.out
            have hqq : ∀ w, (binOp .quo 65 (.float .f64 least) (.float .f64 gw)).run Tryz.prog w = .ok (.float .f64 (dvW least gw)) w := fun w => run_float_arith w .quo _ .f64 least gw _ hdv
            have mn : ∀ (w : World) (ts : Array TypeId) (t : TypeId), (Builtin.min_ ts t #[.float .f64 sh, .float .f64 (dvW least gw)]).run Tryz.prog w = .ok (.float .f64 (fmin sh (dvW least gw))) w := fun w ts t => run_min_float w ts t HNS.out.fr hdn.fr
            have hfm := hid' (HNS.out.fmin hdn).2
            have lr := (MM.out.rows i hin).lt
            generalize fmin sh (dvW least gw) = s2 at *
            generalize dvW least gw = q2 at *
            have ol := leq_nn hfm.out HNB.out
            rw [hfm.out.kw, HNB.out.kw] at ES
            clear ij
            go_wp2_with fail
            refine Calls.mono (HG.out _) ?_
            rintro e w2 ⟨rfl, hb2⟩
            have hbx : Below wr.heap.size wr w2 := ((Below.refl _ wr).alloc (Nat.le_refl _) _).trans (hb2.mono (by simp))
            have HBW := hid' (HBW.out.trans (hbx.mono HBW.out.size))
            have MM := hid' (MM.out.below hbx)
            clear hbx hb2 HG r1 r2 lr hdv hdn
            by_cases hle : s2 ≤ best
            · have EN : Hid (pvI M n k (n - (i + 1)) (i + 1) best at_ = pvX M n k) := by
                show _ = _
                have : SH = none := by rw [← HSE.out, ES.out, if_pos (by omega)]
                have h2 := EP2.out
                rw [this] at h2
                exact h2
              clear EP2 HSE ES MM IV2
              rcases (show s2 < best ∨ s2 = best by omega) with h | h
              · rw [cmp_lt' (show (s2 : Int) < (best : Int) by omega)] at ol
                go_wp2
                go_roundg (n - (i + 1))
                case rel => exact ⟨i + 1, best, at_, by omega, by omega, rfl, by go_num, rfl, rfl, HNB.out, EN.out, HBW.out⟩
                case measure => omega
              · rw [cmp_eq' (show (s2 : Int) = (best : Int) by omega)] at ol
                clear h hle
                go_wp2
                go_roundg (n - (i + 1))
                case rel => exact ⟨i + 1, best, at_, by omega, by omega, rfl, by go_num, rfl, rfl, HNB.out, EN.out, HBW.out⟩
                case measure => omega
            · rw [cmp_gt' (show (best : Int) < (s2 : Int) by omega)] at ol
              have EN : Hid (shJ (M i) least best (n - k - (j + 1)) (k + (j + 1)) s2 = SH) := by
                show _ = _
                rw [← HSE.out, ES.out, if_neg (by omega)]
              clear HSE ES
              go_wp2
              go_roundg (n - k - (j + 1))
              case rel => exact ⟨j + 1, s2, by omega, rfl, by go_num, rfl, hfm.out, EN.out, HBW.out, MM.out⟩
              case measure => omega
          · have EN : Hid (pvI M n k (n - (i + 1)) (i + 1) sh (some i) = pvX M n k) := by
              show _ = _
              have : SH = some sh := by rw [← HSE.out, show n - k - j = 0 by omega]; rfl
              have h2 := EP2.out
              rw [this] at h2
              exact h2
            clear EP2 HSE MM IV2
            go_wp2
            go_roundg (n - (i + 1))
            case rel => exact ⟨i + 1, sh, some i, by omega, by omega, rfl, by go_num, rfl, rfl, HNS.out, EN.out, HBW.out⟩
            case measure => omega
    · have EN : Hid (at_ = pvX M n k) := by
        show _ = _
        rw [← HPV.out, show n - i = 0 by omega]; rfl
      clear HPV HM IV
      cases at_ with
      | none =>
        have c8 : wr.cell? ⟨8, 0, none⟩ = some (.iface 229 (.pointer (some (A 8)))) := (HS.out.below HB.out (Nat.le_refl _)).cell 8 (by omega)
        have ha : atV none = -1 := rfl
        rw [ha]
        go_wp2_with fail
        go_region
        all_goals go_wp2
        all_goals (rw [Exit.noGoto_ret]; refine bodyPost_ret (v := .tuple #[.int .i64 0, .iface 229 (.pointer (some (A 8)))]) (by simp [results, Tryz.results156, go_sem]) rfl ?_; exact ⟨HB.out.drew, .inr ⟨EN.out.symm, rfl⟩⟩)
      | some a =>
        have ha : atV (some a) = (a : Int) := rfl
        rw [ha]
        go_wp2
        rw [Exit.noGoto_ret]
        refine bodyPost_ret (v := .tuple #[.int .i64 (a : Int), .nilIface]) (by simp [results, Tryz.results156, go_sem]) rfl ?_
        exact ⟨HB.out, .inl ⟨a, EN.out.symm, rfl⟩⟩
end Go.Proofs.YtonhpkigoplmaaaGreatDoor
namespace Go.Proofs.YtonhpkigoplmaaaGreatDoor
open Go.RowKit Go.Extern Ieee
attribute [local go_sem] run_store_float

theorem Mat.ne {W : World} {gr n : Nat} {gb cap : Nat → Nat} {M : Nat → Nat → Nat × Nat} (m : Mat W gr n gb cap M) {i : Nat} (hi : i < n) : gb i ≠ gr := by
  intro e
  obtain ⟨cur, h1, _⟩ := m.blk
  obtain ⟨cur2, h2, _⟩ := m.rows i hi
  rw [e, h1] at h2
  cases h2

theorem Mat.take {W W' : World} {gr n : Nat} {gb cap : Nat → Nat} {M : Nat → Nat → Nat × Nat} (m : Mat W gr n gb cap M) {i : Nat} (hi : i < n) (hg : W.grownBy W' (some (gb i))) {r' : Nat → Nat × Nat} (hr : RowI W' (gb i) (n + 1) r') : Mat W' gr n gb cap (upd M i r') := by
  obtain ⟨cur, h1, h2⟩ := m.blk
  refine ⟨⟨cur, (hg.block gr (lt_of_row h1) (fun e => m.ne hi (by cases e; rfl))).trans h1, h2⟩, fun j hj => ?_, m.inj, m.caps⟩
  by_cases hij : j = i
  · subst hij; rw [upd_same]; exact hr
  · rw [upd_ne hij]; exact (m.rows j hj).grown hg (m.inj j i hj hi hij)

theorem Mat.swap {W : World} {gr n : Nat} {gb cap : Nat → Nat} {M : Nat → Nat → Nat × Nat} (m : Mat W gr n gb cap M) {k a : Nat} (hk : k < n) (ha : a < n) : Mat ((W.setCell ⟨gr, k, none⟩ (.slice (some ⟨gb a, 0, none⟩) (n + 1) (cap a))).setCell ⟨gr, a, none⟩ (.slice (some ⟨gb k, 0, none⟩) (n + 1) (cap k))) gr n (swapR gb k a) (swapR cap k a) (swapR M k a) := by
  obtain ⟨cur, h1, h2, h3⟩ := m.blk
  have hs : ∀ i, i < n → (i = k → swapR gb k a i = gb a) ∧ (i ≠ k → i = a → swapR gb k a i = gb k) ∧ (i ≠ k → i ≠ a → swapR gb k a i = gb i) := by
    intro i _
    unfold swapR
    refine ⟨fun h => by rw [if_pos h], fun h h' => by rw [if_neg h, if_pos h'], fun h h' => by rw [if_neg h, if_neg h']⟩
  have hg : ∀ i v, W.grownBy (W.setCell ⟨gr, i, none⟩ v) (some gr) := fun i v => grown_set W gr i v
  refine ⟨⟨_, blk_set_cur (blk_set_cur h1 _ _) _ _, by simpa using h2, fun i hi => ?_⟩, fun i hi => ?_, fun i j hi hj hij => ?_, fun i hi => ?_⟩
  · unfold swapR
    by_cases ia : i = a
    · subst ia
      rw [Array.getElem?_setIfInBounds_self_of_lt (by simp; omega)]
      by_cases ik : i = k
      · subst ik; rw [if_pos rfl, if_pos rfl]
      · rw [if_neg ik, if_pos rfl, if_neg ik, if_pos rfl]
    · rw [Array.getElem?_setIfInBounds_ne (fun e => ia e.symm)]
      by_cases ik : i = k
      · subst ik
        rw [Array.getElem?_setIfInBounds_self_of_lt (by omega), if_pos rfl, if_pos rfl]
      · rw [Array.getElem?_setIfInBounds_ne (fun e => ik e.symm), if_neg ik, if_neg ia, if_neg ik, if_neg ia]; exact h3 i hi
  · have key : ∀ j, j < n → RowI ((W.setCell ⟨gr, k, none⟩ (.slice (some ⟨gb a, 0, none⟩) (n + 1) (cap a))).setCell ⟨gr, a, none⟩ (.slice (some ⟨gb k, 0, none⟩) (n + 1) (cap k))) (gb j) (n + 1) (M j) := fun j hj => ((m.rows j hj).grown (grown_set W gr k _) (m.ne hj)).grown (grown_set _ gr a _) (m.ne hj)
    unfold swapR
    by_cases ik : i = k
    · rw [if_pos ik, if_pos ik]; exact key a ha
    · rw [if_neg ik, if_neg ik]
      by_cases ia : i = a
      · rw [if_pos ia, if_pos ia]; exact key k hk
      · rw [if_neg ia, if_neg ia]; exact key i hi
  · unfold swapR
    by_cases ik : i = k <;> by_cases jk : j = k
    · omega
    · rw [if_pos ik, if_neg jk]
      by_cases ja : j = a
      · rw [if_pos ja]; exact m.inj a k ha hk (by omega)
      · rw [if_neg ja]; exact m.inj a j ha hj (by omega)
    · rw [if_neg ik, if_pos jk]
      by_cases ia : i = a
      · rw [if_pos ia]; exact m.inj k a hk ha (by omega)
      · rw [if_neg ia]; exact m.inj i a hi ha (by omega)
    · rw [if_neg ik, if_neg jk]
      by_cases ia : i = a <;> by_cases ja : j = a
      · omega
      · rw [if_pos ia, if_neg ja]; exact m.inj k j hk hj (by omega)
      · rw [if_neg ia, if_pos ja]; exact m.inj i k hi hk (by omega)
      · rw [if_neg ia, if_neg ja]; exact m.inj i j hi hj hij
  · unfold swapR
    by_cases ik : i = k
    · rw [if_pos ik]; exact m.caps a ha
    · rw [if_neg ik]
      by_cases ia : i = a
      · rw [if_pos ia]; exact m.caps k hk
      · rw [if_neg ia]; exact m.caps i hi

/-- Where the elimination stands before the k-th pivot. -/
structure El (w0 W : World) (gr n : Nat) (gb cap : Nat → Nat) (M : Nat → Nat → Nat × Nat) (k : Nat) : Prop where
  mat : Mat W gr n gb cap M
  hb : Below w0.heap.size w0 W
  gg : w0.heap.size ≤ gr
  gs : ∀ i, i < n → w0.heap.size ≤ gb i
  iv : ∀ y x, y < n → (y ≤ x ∨ k ≤ x) → x ≤ n → ivW (M y x)
  nz : ∀ y, y < k → y < n → ¬ memW (M y y) 0

theorem El.below {w0 W W' : World} {gr n : Nat} {gb cap : Nat → Nat} {M : Nat → Nat → Nat × Nat} {k : Nat} (e : El w0 W gr n gb cap M k) (hb : Below W.heap.size W W') : El w0 W' gr n gb cap M k :=
  ⟨e.mat.below hb, e.hb.trans (hb.mono e.hb.size), e.gg, e.gs, e.iv, e.nz⟩

/-- Behind the swap: the k-th row has its pivot. -/
structure Em (w0 W : World) (gr n : Nat) (gb cap : Nat → Nat) (M : Nat → Nat → Nat × Nat) (k i : Nat) : Prop where
  mat : Mat W gr n gb cap M
  hb : Below w0.heap.size w0 W
  gg : w0.heap.size ≤ gr
  gs : ∀ i, i < n → w0.heap.size ≤ gb i
  iv : ∀ y x, y < n → (y ≤ x ∨ k ≤ x) → x ≤ n → ivW (M y x)
  nz : ∀ y, y ≤ k → y < n → ¬ memW (M y y) 0
end Go.Proofs.YtonhpkigoplmaaaGreatDoor
namespace Go.Proofs.YtonhpkigoplmaaaGreatDoor
open Go.RowKit Go.Extern Ieee
attribute [local go_sem] run_store_float

theorem em_of {w0 W1 W : World} {gr n : Nat} {gb cap : Nat → Nat} {M : Nat → Nat → Nat × Nat} {k a : Nat} (e : El w0 W1 gr n gb cap M k) (hk : k < n) (ak : k ≤ a) (an : a < n) (hz : ¬ memW (M a k) 0) (hm : Mat W gr n (swapR gb k a) (swapR cap k a) (swapR M k a)) (hb : Below w0.heap.size w0 W) : Em w0 W gr n (swapR gb k a) (swapR cap k a) (swapR M k a) k 0 := by
  refine ⟨hm, hb, e.gg, fun i hi => ?_, fun y x hy hx hn => ?_, fun y hy hn => ?_⟩
  · unfold swapR
    by_cases ik : i = k
    · rw [if_pos ik]; exact e.gs a an
    · rw [if_neg ik]
      by_cases ia : i = a
      · rw [if_pos ia]; exact e.gs k hk
      · rw [if_neg ia]; exact e.gs i hi
  · unfold swapR
    by_cases ik : y = k
    · rw [if_pos ik]; exact e.iv a x an (.inr (by omega)) hn
    · rw [if_neg ik]
      by_cases ia : y = a
      · rw [if_pos ia]; exact e.iv k x hk (.inr (by omega)) hn
      · rw [if_neg ia]; exact e.iv y x hy hx hn
  · unfold swapR
    by_cases ik : y = k
    · rw [if_pos ik, ik]; exact hz
    · rw [if_neg ik, if_neg (by omega)]; exact e.nz y (by omega) hn

theorem em_take {w0 W W' : World} {gr n : Nat} {gb cap : Nat → Nat} {M : Nat → Nat → Nat × Nat} {k i : Nat} (e : Em w0 W gr n gb cap M k 0) (_ : k < n) (hki : k < i) (hi : i < n) {r' br : Nat → Nat × Nat} (t : TkS w0 W W' (gb i) (gb k) (n + 1) r' br) (hiv : ∀ x, k ≤ x → x < n + 1 → ivW (r' x)) : Em w0 W' gr n gb cap (upd M i r') k 0 := by
  refine ⟨e.mat.take hi t.hg t.r1, t.hb, e.gg, e.gs, fun y x hy hx hn => ?_, fun y hy hn => ?_⟩
  · by_cases hyi : y = i
    · subst hyi; rw [upd_same]; exact hiv x (by omega) (by omega)
    · rw [upd_ne hyi]; exact e.iv y x hy hx hn
  · rw [upd_ne (by omega)]; exact e.nz y hy hn
theorem el_of_em {w0 W : World} {gr n : Nat} {gb cap : Nat → Nat} {M : Nat → Nat → Nat × Nat} {k : Nat} (e : Em w0 W gr n gb cap M k 0) : El w0 W gr n gb cap M (k + 1) :=
  ⟨e.mat, e.hb, e.gg, e.gs, fun y x hy hx hn => e.iv y x hy (by omega) hn, fun y hy hn => e.nz y (by omega) hn⟩

set_option maxHeartbeats 8000000 in
set_option maxRecDepth 100000 in
theorem eliminate_any (A : Nat → Addr) (gr n cr : Nat) (gb0 cap0 : Nat → Nat) (M0 : Nat → Nat → Nat × Nat) (w0 w : World) (hS : Sents A w0) (hn : n ≤ 90) (hcr : n ≤ cr) (e0 : El w0 w gr n gb0 cap0 M0 0) :
    Calls Tryz.prog 110 #[.slice (some ⟨gr, 0, none⟩) n cr] w fun e w' => Below w0.heap.size w0 w' ∧ ((∃ gb cap M, elimX muX suX quX pvX n n 0 M0 = some M ∧ e = .returned .nilIface ∧ El w0 w' gr n gb cap M n) ∨ elimX muX suX quX pvX n n 0 M0 = none ∧ e = .returned (.iface 229 (.pointer (some (A 8))))) := by
  have HS := hid' hS
  have HE := hid' e0
  clear hS e0
  go_enter Tryz.func110, Tryz.ntmps110
  go_wp2_with fail
  go_loopw [11] (fun x wr => ∃ (k : Nat) (gb cap : Nat → Nat) (M : Nat → Nat → Nat × Nat), k ≤ n ∧ x = .int .i64 (k : Int) ∧ El w0 wr gr n gb cap M k ∧ elimX muX suX quX pvX n (n - k) k M = elimX muX suX quX pvX n n 0 M0) (fun x _ => n - (intOf x).toNat)
  case atStart => exact ⟨0, gb0, cap0, M0, Nat.zero_le _, rfl, HE.out, rfl⟩
  case round =>
    obtain ⟨k, gb, cap, M, hk1, rfl, hel, hre⟩ := hrel
    have EL := hid' hel
    have RE := hid' hre
    clear hel hre HE
    by_cases hk : k < n
    · have HP : Hid (Calls Tryz.prog 156 #[.slice (some ⟨gr, 0, none⟩) n cr, .int .i64 (k : Int)] wr fun e w' => Below wr.heap.size wr w' ∧ ((∃ a, pvX M n k = some a ∧ e = .returned (.tuple #[.int .i64 (a : Int), .nilIface])) ∨ pvX M n k = none ∧ e = .returned (.tuple #[.int .i64 0, .iface 229 (.pointer (some (A 8)))]))) := pivot_any A gr n cr k gb cap M wr (HS.out.below EL.out.hb (Nat.le_refl _)) EL.out.mat hk (by omega) (fun i j a b c d => EL.out.iv i j b (.inr c) (by omega))
      have EX : Hid (elimX muX suX quX pvX n (n - k) k M = (pvX M n k).bind fun a => (takeI muX suX quX n k (n - 1 - k) (k + 1) (swapR M k a)).bind fun M' => elimX muX suX quX pvX n (n - (k + 1)) (k + 1) M') := by
        show _ = _
        rw [show n - k = (n - (k + 1)) + 1 by omega]; rfl
      go_wp2_with fail
      refine Calls.mono HP.out ?_
      rintro e w1 ⟨hb1, hor⟩
      have EL := hid' (EL.out.below hb1)
      clear hb1 HP
      rcases hor with ⟨a, ea, rfl⟩ | ⟨ea, rfl⟩
      · obtain ⟨ak, an, anz⟩ := holding.pv M n k a ea
        have ANZ : Hid (¬ memW (M a k) 0) := fun hc => anz ⟨EL.out.iv a k an (.inr (Nat.le_refl _)) (by omega), hc⟩
        have EX2 : Hid ((takeI muX suX quX n k (n - 1 - k) (k + 1) (swapR M k a)).bind (fun M' => elimX muX suX quX pvX n (n - (k + 1)) (k + 1) M') = elimX muX suX quX pvX n n 0 M0) := by
          show _ = _
          rw [← RE.out, EX.out, ea]; rfl
        clear RE EX ea anz
        obtain ⟨h1, h2⟩ := EL.out.mat.head hk
        obtain ⟨h3, h4⟩ := EL.out.mat.head an
        go_wp2_with fail
        go_cut [] (fun wc => Em w0 wc gr n (swapR gb k a) (swapR cap k a) (swapR M k a) k 0)
        case first =>
          have MS := hid' (EL.out.mat.swap hk an)
          have EM : Hid (∀ W, Mat W gr n (swapR gb k a) (swapR cap k a) (swapR M k a) → Below w0.heap.size w0 W → Em w0 W gr n (swapR gb k a) (swapR cap k a) (swapR M k a) k 0) := fun W hm hb => em_of EL.out hk ak an ANZ.out hm hb
          by_cases hka : k = a
          · subst hka
            clear h3 h4
            go_region
            all_goals (go_wp2_with fail; go_meet)
            all_goals exact EM.out _ (MS.out.below (Below.refl _ _).drew) ((EL.out.hb.setCell (by exact EL.out.gg) _).setCell (by exact EL.out.gg) _).drew
          · go_region
            all_goals (go_wp2_with fail; go_meet)
            all_goals exact EM.out _ (MS.out.below (Below.refl _ _).drew) ((EL.out.hb.setCell (by exact EL.out.gg) _).setCell (by exact EL.out.gg) _).drew
        case rest =>
          have EM := hid' hcut
          clear hcut EL ANZ h1 h2 h3 h4
          generalize swapR M k a = M1 at *
          generalize swapR gb k a = gb1 at *
          generalize swapR cap k a = cap1 at *
          generalize hti : takeI muX suX quX n k (n - 1 - k) (k + 1) M1 = TI at *
          have HTI := hid' hti
          clear hti
          have hk4 : k + 1 ≤ n := hk
          have hk5 : n ≤ cr := hcr
          by_cases hkc : k + 1 < cr
          · go_wp2_with fail
            go_loopw [42] (fun x wy => ∃ (j : Nat) (M' : Nat → Nat → Nat × Nat), j ≤ n - (k + 1) ∧ x = .int .i64 (j : Int) ∧ Em w0 wy gr n gb1 cap1 M' k 0 ∧ takeI muX suX quX n k (n - (k + 1) - j) (k + 1 + j) M' = TI) (fun x _ => n - (intOf x).toNat)
            case atStart => exact ⟨0, M1, by omega, rfl, EM.out, by rw [← HTI.out, show n - (k + 1) - 0 = n - 1 - k by omega]⟩
            case round =>
              obtain ⟨j, M', hj1, rfl, hem, hte⟩ := hrel
              have EM := hid' hem
              have TE := hid' hte
              clear hem hte HTI
              by_cases hj : j < n - (k + 1)
              · obtain ⟨h1, -⟩ := EM.out.mat.head (i := k + 1 + j) (by omega)
                obtain ⟨h3, -⟩ := EM.out.mat.head hk
                have hne : gb1 (k + 1 + j) ≠ gb1 k := EM.out.mat.inj _ _ (by omega) hk (by omega)
                have HT : Hid (Calls Tryz.prog 157 #[.slice (some ⟨gb1 (k + 1 + j), 0, none⟩) (n + 1) (cap1 (k + 1 + j)), .slice (some ⟨gb1 k, 0, none⟩) (n + 1) (cap1 k), .int .i64 (k : Int)] wr fun e w' => ∃ r', TkS w0 wr w' (gb1 (k + 1 + j)) (gb1 k) (n + 1) r' (M' k) ∧ (takeX muX suX quX n k (M' (k + 1 + j)) (M' k) = some r' ∧ e = .returned .nilIface ∧ (∀ x, k ≤ x → x < n + 1 → ivW (r' x)) ∨ takeX muX suX quX n k (M' (k + 1 + j)) (M' k) = none ∧ e = .returned (.iface 229 (.pointer (some (A 8)))))) :=
                  takeFrom_any A _ _ (n + 1) _ _ k n (M' (k + 1 + j)) (M' k) w0 wr HS.out ⟨⟨rfl, rfl, rfl, Nat.le_refl _, fun _ _ _ => rfl⟩, EM.out.mat.rows _ (by omega), EM.out.mat.rows k hk, EM.out.hb, hne, EM.out.gs _ (by omega)⟩ (by omega) (by omega) rfl (fun x a b => EM.out.iv _ x (by omega) (.inr a) (by omega)) (fun x a b => EM.out.iv k x hk (.inr a) (by omega)) (EM.out.nz k (Nat.le_refl _) hk)
                have ET : Hid (takeI muX suX quX n k (n - (k + 1) - j) (k + 1 + j) M' = (takeX muX suX quX n k (M' (k + 1 + j)) (M' k)).bind fun r => takeI muX suX quX n k (n - (k + 1) - (j + 1)) (k + 1 + (j + 1)) (upd M' (k + 1 + j) r)) := by
                  show _ = _
                  rw [show n - (k + 1) - j = (n - (k + 1) - (j + 1)) + 1 by omega]; rfl
                clear hne
                go_wp2_with fail
                refine Calls.mono HT.out ?_
                rintro e w2 ⟨r', htk, hor⟩
                have TK := hid' htk
                clear htk HT h1 h3
                rcases hor with ⟨e1, rfl, hiv⟩ | ⟨e1, rfl⟩
                · have EM2 : Hid (Em w0 w2 gr n gb1 cap1 (upd M' (k + 1 + j) r') k 0) := em_take EM.out hk (by omega) (by omega) TK.out hiv
                  have TE2 : Hid (takeI muX suX quX n k (n - (k + 1) - (j + 1)) (k + 1 + (j + 1)) (upd M' (k + 1 + j) r') = TI) := by
                    show _ = _
                    rw [← TE.out, ET.out, e1]; rfl
                  clear EM TE ET TK hiv e1
                  go_wp2
                  go_roundw
                  case rel => exact ⟨j + 1, _, by omega, by go_num, EM2.out, TE2.out⟩
                  case measure => simp [intOf]; omega
                · have TE2 : Hid (elimX muX suX quX pvX n n 0 M0 = none) := by
                    show _ = _
                    have : TI = none := by rw [← TE.out, ET.out, e1]; rfl
                    rw [← EX2.out, this]; rfl
                  have HB2 := hid' TK.out.hb
                  clear EM TE ET TK e1 EX2
                  go_wp2
                  go_ret
                  exact ⟨HB2.out, .inr ⟨TE2.out, rfl⟩⟩
              · have TE2 : Hid (elimX muX suX quX pvX n (n - (k + 1)) (k + 1) M' = elimX muX suX quX pvX n n 0 M0) := by
                  show _ = _
                  have : TI = some M' := by rw [← TE.out, show n - (k + 1) - j = 0 by omega]; rfl
                  rw [← EX2.out, this]; rfl
                have EL2 := hid' (el_of_em EM.out)
                clear EM TE EX2
                go_wp2
                go_roundw
                case rel => exact ⟨k + 1, gb1, cap1, M', by omega, by go_num, EL2.out, TE2.out⟩
                case measure => simp [intOf]; omega
          · have TE2 : Hid (elimX muX suX quX pvX n (n - (k + 1)) (k + 1) M1 = elimX muX suX quX pvX n n 0 M0) := by
              show _ = _
              have : TI = some M1 := by rw [← HTI.out, show n - 1 - k = 0 by omega]; rfl
              rw [← EX2.out, this]; rfl
            have EL2 := hid' (el_of_em EM.out)
            clear EM EX2 HTI
            have hkn : n = k + 1 := by omega
            have hkr : cr = k + 1 := by omega
            go_wp2_with fail
            go_loopw [42] (fun x wy => x = .int .i64 0 ∧ wy = wc) (fun _ _ => 0)
            case atStart => exact ⟨rfl, rfl⟩
            case round =>
              obtain ⟨rfl, rfl⟩ := hrel
              go_wp2
              go_roundw
              case rel => exact ⟨k + 1, gb1, cap1, M1, by omega, by go_num, EL2.out, TE2.out⟩
              case measure => simp [intOf]; omega
      · have TE2 : Hid (elimX muX suX quX pvX n n 0 M0 = none) := by
          show _ = _
          rw [← RE.out, EX.out, ea]; rfl
        have HB2 := hid' EL.out.hb
        clear EL RE EX ea
        go_wp2
        go_ret
        exact ⟨HB2.out, .inr ⟨TE2.out, rfl⟩⟩
    · have TE2 : Hid (elimX muX suX quX pvX n n 0 M0 = some M) := by
        show _ = _
        rw [← RE.out, show n - k = 0 by omega]; rfl
      have hkn : k = n := by omega
      subst hkn
      clear RE
      go_wp2
      go_ret
      exact ⟨EL.out.hb, .inl ⟨gb, cap, M, TE2.out, rfl, EL.out⟩⟩
end Go.Proofs.YtonhpkigoplmaaaGreatDoor
namespace Go.Proofs.YtonhpkigoplmaaaGreatDoor
open Go.RowKit Go.Extern Ieee
attribute [local go_sem] run_store_float

/-- An end in reach, by its word. -/
def reachW (x : Nat) : Bool := decide (absW x = 0) || (decide (4472074429978902528 ≤ absW x) && decide (absW x ≤ 4742290407621132288))

set_option maxHeartbeats 2000000 in
set_option maxRecDepth 100000 in
theorem inReach_any {x : Nat} (hx : x < 18446744073709551616) (hp : plainN x = some (plT x)) (w : World) : Calls Tryz.prog 155 #[.float .f64 x] w fun e w' => e = .returned (.bool (reachW x)) ∧ w' = w := by
  have H1 : Hid (∀ W, Calls Tryz.prog 160 #[.float .f64 x] W fun e w' => e = .returned (.float .f64 (absW x)) ∧ w' = W) := fun W => abs_any x W hx
  have hn := (abs_plain hx hp).1.nn
  have o1 : FloatKind.f64.format.order (absW x) 0 = some (compare ((absW x : Nat) : Int) ((0 : Nat) : Int)) := leq_nn hn ⟨by decide⟩
  have o2 : FloatKind.f64.format.order (absW x) 4472074429978902528 = some (compare ((absW x : Nat) : Int) ((4472074429978902528 : Nat) : Int)) := leq_nn hn ⟨by decide⟩
  have o3 : FloatKind.f64.format.order (absW x) 4742290407621132288 = some (compare ((absW x : Nat) : Int) ((4742290407621132288 : Nat) : Int)) := leq_nn hn ⟨by decide⟩
  have HR : Hid (reachW x = (decide (absW x = 0) || (decide (4472074429978902528 ≤ absW x) && decide (absW x ≤ 4742290407621132288)))) := rfl
  generalize absW x = a at *
  generalize reachW x = r at *
  clear hn hp hx
  go_enter Tryz.func155, Tryz.ntmps155
  go_wp2_with fail
  refine Calls.mono (H1.out _) ?_
  rintro e w1 ⟨rfl, rfl⟩
  clear H1
  by_cases c1 : a = 0
  · subst c1
    have er : Hid (r = true) := by show _ = _; rw [HR.out]; simp
    clear HR
    go_wp2_with fail
    go_ret
    rw [er.out]; exact ⟨rfl, rfl⟩
  · have q1 : compare ((a : Nat) : Int) ((0 : Nat) : Int) = .gt := Int.compare_eq_gt.2 (by omega)
    rw [q1] at o1
    by_cases c2 : 4472074429978902528 ≤ a
    · by_cases c3 : a ≤ 4742290407621132288
      · have er : Hid (r = true) := by show _ = _; rw [HR.out]; simp [c2, c3]
        clear HR q1
        rcases Nat.lt_or_eq_of_le c2 with d2 | d2 <;> rcases Nat.lt_or_eq_of_le c3 with d3 | d3
        · have q2 : compare ((a : Nat) : Int) ((4472074429978902528 : Nat) : Int) = .gt := Int.compare_eq_gt.2 (by omega)
          have q3 : compare ((a : Nat) : Int) ((4742290407621132288 : Nat) : Int) = .lt := Int.compare_eq_lt.2 (by omega)
          rw [q2] at o2
          rw [q3] at o3
          clear q2 q3 c1 c2 c3 d2 d3
          go_wp2_with fail
          go_ret
          rw [er.out]; exact ⟨rfl, rfl⟩
        · subst d3
          have q2 : compare ((4742290407621132288 : Nat) : Int) ((4472074429978902528 : Nat) : Int) = .gt := by decide
          have q3 : compare ((4742290407621132288 : Nat) : Int) ((4742290407621132288 : Nat) : Int) = .eq := by decide
          rw [q2] at o2
          rw [q3] at o3
          clear q2 q3 c1 c2 c3 d2
          go_wp2_with fail
          go_ret
          rw [er.out]; exact ⟨rfl, rfl⟩
        · subst d2
          have q2 : compare ((4472074429978902528 : Nat) : Int) ((4472074429978902528 : Nat) : Int) = .eq := by decide
          have q3 : compare ((4472074429978902528 : Nat) : Int) ((4742290407621132288 : Nat) : Int) = .lt := by decide
          rw [q2] at o2
          rw [q3] at o3
          clear q2 q3 c1 c2 c3 d3
          go_wp2_with fail
          go_ret
          rw [er.out]; exact ⟨rfl, rfl⟩
        · omega
      · have er : Hid (r = false) := by show _ = _; rw [HR.out]; simp [c1, c3]
        have q2 : compare ((a : Nat) : Int) ((4472074429978902528 : Nat) : Int) = .gt := Int.compare_eq_gt.2 (by omega)
        have q3 : compare ((a : Nat) : Int) ((4742290407621132288 : Nat) : Int) = .gt := Int.compare_eq_gt.2 (by omega)
        rw [q2] at o2
        rw [q3] at o3
        clear q1 q2 q3 c1 c2 c3 HR
        go_wp2_with fail
        go_ret
        rw [er.out]; exact ⟨rfl, rfl⟩
    · have er : Hid (r = false) := by show _ = _; rw [HR.out]; simp [c1, c2]
      have q2 : compare ((a : Nat) : Int) ((4472074429978902528 : Nat) : Int) = .lt := Int.compare_eq_lt.2 (by omega)
      rw [q2] at o2
      clear q1 q2 c1 c2 HR o3
      go_wp2_with fail
      go_ret
      rw [er.out]; exact ⟨rfl, rfl⟩

set_option maxHeartbeats 2000000 in
set_option maxRecDepth 100000 in
theorem outOfReach_any {al ah : Nat} (i : Iv al ah) (w : World) : Calls Tryz.prog 109 #[.agg #[.float .f64 al, .float .f64 ah]] w fun e w' => e = .returned (.bool (!reachW al || !reachW ah)) ∧ Below w.heap.size w w' := by
  have H1 : Hid (∀ W, Calls Tryz.prog 155 #[.float .f64 al] W fun e w' => e = .returned (.bool (reachW al)) ∧ w' = W) := fun W => inReach_any i.lt1 i.p1 W
  have H2 : Hid (∀ W, Calls Tryz.prog 155 #[.float .f64 ah] W fun e w' => e = .returned (.bool (reachW ah)) ∧ w' = W) := fun W => inReach_any i.lt2 i.p2 W
  clear i
  generalize reachW al = x at *
  generalize reachW ah = y at *
  go_enter Tryz.func109, Tryz.ntmps109
  go_wp2_with fail
  have hB : Below w.heap.size w (w.alloc (Obj.cells #[.float .f64 al, .float .f64 ah] 67)) := (Below.refl _ _).alloc (Nat.le_refl _) _
  have K := blk_new w (Obj.cells #[.float .f64 al, .float .f64 ah] 67)
  generalize (w.alloc (Obj.cells #[.float .f64 al, .float .f64 ah] 67)) = W1 at *
  obtain ⟨k0, k1, -, -⟩ := blk2 K
  refine Calls.mono (H1.out _) ?_
  rintro e w1 ⟨rfl, rfl⟩
  cases x
  · go_wp2_with fail
    go_ret
    exact ⟨rfl, hB⟩
  · go_wp2_with fail
    refine Calls.mono (H2.out _) ?_
    rintro e w1 ⟨rfl, rfl⟩
    cases y
    · go_wp2_with fail
      go_ret
      exact ⟨rfl, hB⟩
    · go_wp2_with fail
      go_ret
      exact ⟨rfl, hB⟩
end Go.Proofs.YtonhpkigoplmaaaGreatDoor
