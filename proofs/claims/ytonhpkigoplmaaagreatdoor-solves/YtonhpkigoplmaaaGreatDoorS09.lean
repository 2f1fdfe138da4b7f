/-
  QuoQ, RootM, RootP, RefP, RefQ, OverM, RefO, RefR, RefS, RefT, RefU, RefV, RefW, RefX, RefY, ErrO, ErrP, CodeO, With, OpM, RefD, RefE, OpQ, OpS, OpP.
-/
import Derived.Test.YtonhpkigoplmaaaGreatDoorS08
import Derived.Test.YtonhpkigoplmaaaGreatDoorS04
import Derived.Test.YtonhpkigoplmaaaGreatDoorS03
import Derived.Deep.DeepCutAuto
namespace Go.Proofs.YtonhpkigoplmaaaGreatDoor
open Go.RowKit Go.Extern Ieee

theorem markN_ne {s : Bool} {q : Nat} {e : Int} {b : Bool} (h : 2 * q + (if b then 0 else 1) ≠ 0) : markN s q e b = (s, 2 * q + (if b then 0 else 1), e - 1) := by
  unfold markN
  rw [decide_eq_true h, Bool.and_true]

theorem ite_decide (p : Prop) [Decidable p] : (if (decide p) = true then (0 : Nat) else 1) = if p then 0 else 1 := by
  by_cases h : p
  · rw [decide_eq_true h, if_pos rfl, if_pos h]
  · rw [decide_eq_false h, if_neg Bool.false_ne_true, if_neg h]

/-- The document's quotient is the same number, marked farther behind. -/
theorem quoN_mark {sx sy : Bool} {mx my : Nat} {ex ey : Int} (x1 : 4503599627370496 ≤ mx) (x2 : mx < 9007199254740992) (y1 : 4503599627370496 ≤ my) (y2 : my < 9007199254740992) :
    ∃ N, quoN (sx, mx, ex) (sy, my, ey) = ((sx ^^ sy), N, ex - ey - 55 - 59) ∧ MarkOf (mx * 2 ^ 54 / my) (mx * 2 ^ 54 % my = 0) 1 (q1 mx my) ∧ MarkOf (mx * 2 ^ 54 / my) (mx * 2 ^ 54 % my = 0) 60 N := by
  have h1 := quo_mark (m := mx * 2 ^ 54) (n := my) (k := 0) (by omega) rfl
  have h2 := quo_mark (m := mx * 2 ^ 54) (n := my) (k := 59) (by omega) rfl
  rw [Nat.pow_zero, Nat.mul_one] at h1
  rw [Nat.mul_assoc, ← Nat.pow_add] at h2
  obtain ⟨c1, c2⟩ := q1_bounds x1 x2 y1 y2
  have hne := h2.ne (by omega)
  refine ⟨_, ?_, h1, h2⟩
  unfold quoN
  simp only
  rw [bl53 y1 y2]
  have hne' : 2 * (mx * 2 ^ (60 + 53) / my) + (if (decide (mx * 2 ^ (60 + 53) % my = 0)) = true then 0 else 1) ≠ 0 := by
    rw [ite_decide]; exact hne
  rw [markN_ne hne', ite_decide]
  congr 2
  omega

theorem quo_plain {x y : Nat} {p q : Bool × Nat × Int} (hx : x < 18446744073709551616) (hy : y < 18446744073709551616) (px : plainN x = some p) (py : plainN y = some q) (hq0 : q.2.1 ≠ 0) :
    ∃ d u, Ends (quoN p q) d u ∧ Gives 94 #[.float .f64 x, .float .f64 y] d u := by
  by_cases hp0 : p.2.1 = 0
  · have ho := plain_zero_order hx px hp0
    refine ⟨0, 0, ends_zero ?_, quotientF_zero x y ho⟩
    unfold quoN markN
    simp only
    rw [hp0, Nat.zero_mul, Nat.zero_div, Nat.zero_mod]; rfl
  · obtain ⟨sx, mx, ex⟩ := p
    obtain ⟨sy, my, ey⟩ := q
    obtain ⟨rx, ox, x1, x2, x3, x4⟩ := plain_parts hx px hp0
    obtain ⟨ry, oy, y1, y2, y3, y4⟩ := plain_parts hy py hq0
    simp only at *
    obtain ⟨N, hN, k1, k2⟩ := quoN_mark (sx := sx) (sy := sy) (ex := ex) (ey := ey) x1 x2 y1 y2
    have hc : 4503599627370496 ≤ mx * 2 ^ 54 / my := by have := (q1_bounds x1 x2 y1 y2).1; omega
    have hn : q1 mx my ≠ 0 := k1.ne hc
    have hb := q1_bl x1 x2 y1 y2
    rw [hN]
    suffices h : ∃ d u, Ends ((sx ^^ sy), q1 mx my, ex - ey - 55) d u ∧ Gives 94 #[.float .f64 x, .float .f64 y] d u by
      obtain ⟨d, u, hE, hG⟩ := h
      exact ⟨d, u, k1.ends k2 hc (by omega) hE, hG⟩
    have hdiv := div_plain rx ry x1 x2 y1 y2
    have hrest := quo_rest rx ry x1 x2 y1 y2 x3 x4
    have hlost := quotientF_lost x y sx sy
    have hmain := quotientF_main x y sx sy
    obtain ⟨R, hR, hR2, hmid, htin, hhug⟩ := nearest_any (sx ^^ sy) (ex - ey - 55) hn
    rw [hR] at hdiv hrest
    have rb := rung_bounds (ex - ey - 55) hn
    have hup : -1021 ≤ ex - ey - 55 + bl (q1 mx my) → ex - ey - 55 + bl (q1 mx my) ≤ 1023 → rung (q1 mx my) (ex - ey - 55) ≤ R ∧ (R : Int) ≤ rung (q1 mx my) (ex - ey - 55) + 1 := by
      intro h1 h2
      have := hmid h1 h2
      split at this <;> omega
    have hneg : double.read (negW (wd (sx ^^ sy) R)) = (double.read (wd (sx ^^ sy) R)).opposite := read_negW (wd_lt (by omega))
    have hany : R < 9218868437227405312 → ∃ q o, double.fma (negW (wd (sx ^^ sy) R)) y x = some q ∧ FloatKind.f64.format.order (if sy then negW q else q) 0 = some o := by
      intro hlt
      obtain ⟨m', i', r1, _, _⟩ := read_vr (s := (sx ^^ sy)) (r := R) hlt
      rw [r1] at hneg
      obtain ⟨q, o, q1, q2⟩ := sum_write2 ((!(sx ^^ sy)) ^^ sy) sx (m' * my) mx (i' + ey) ex sy
      exact ⟨q, o, (fma_num hneg ry rx).trans q1, q2⟩
    by_cases hl : R < 103582791429521408
    · exact ⟨_, _, ends_tiny _ hn (by omega) (FR_tiny _ (by omega) (by omega)) (FR_tiny _ (by omega) (by omega)), hlost _ R ox oy hdiv hl⟩
    · by_cases he1 : ex - ey - 55 < -1022
      · obtain ⟨q, o, q1, q2⟩ := hany (by omega)
        obtain ⟨d, u, hd, hu, hG⟩ := around_tiny (sx ^^ sy) R _ o (by omega) (by omega) q2
        exact ⟨d, u, ends_tiny _ hn (by omega) hd hu, hmain _ R q d u ox oy hdiv hl hR2 q1 hG⟩
      · by_cases he2 : 940 < ex - ey - 55
        · by_cases hinf : R = 9218868437227405312
          · subst hinf
            rw [read_wd_inf] at hneg
            have hq : double.fma (negW (wd (sx ^^ sy) 9218868437227405312)) y x = some (wd ((!(sx ^^ sy)) ^^ sy) 9218868437227405312) := by
              unfold Format.fma
              rw [hneg, ry, rx]
              simp only [Datum.opposite, Datum.product]
              rw [if_neg (show ¬ my = 0 by omega)]
              cases sx <;> cases sy <;> rfl
            have ho : FloatKind.f64.format.order (if sy then negW (wd ((!(sx ^^ sy)) ^^ sy) 9218868437227405312) else wd ((!(sx ^^ sy)) ^^ sy) 9218868437227405312) 0 = some (if (sx ^^ sy) then .gt else .lt) := by
              rw [negW_wd (by omega)]
              cases sx <;> cases sy <;> rfl
            obtain ⟨d, u, hd, hu, hG⟩ := around_huge (sx ^^ sy) 9218868437227405312 _ _ (by omega) (by omega) ho (fun _ => rfl)
            exact ⟨d, u, ends_huge _ hn (by omega) hd hu, hmain _ _ _ d u ox oy hdiv hl hR2 hq hG⟩
          · obtain ⟨q, o, q1, q2⟩ := hany (by omega)
            obtain ⟨d, u, hd, hu, hG⟩ := around_huge (sx ^^ sy) R _ o (by omega) (by omega) q2 (fun h => absurd h hinf)
            exact ⟨d, u, ends_huge _ hn (by omega) hd hu, hmain _ R q d u ox oy hdiv hl hR2 q1 hG⟩
        · obtain ⟨q, q1', q2⟩ := hrest (by omega) (by omega)
          have hA : Gives 141 #[.float .f64 (double.nearest (sx ^^ sy) (q1 mx my) (ex - ey - 55)), .float .f64 (if sy then negW q else q)] _ _ := fun w => around_round (sx ^^ sy) (q1 mx my) (ex - ey - 55) _ w hn (by omega) (by omega) q2
          rw [hR] at hA
          have e1 := endR_bounds (sx ^^ sy) (n := q1 mx my) (ex - ey - 55) (-1)
          have e2 := endR_bounds (sx ^^ sy) (n := q1 mx my) (ex - ey - 55) 1
          exact ⟨_, _, ⟨FR_end _ (-1) hn (by omega) (by omega), FR_end _ 1 hn (by omega) (by omega)⟩, hmain _ R q _ _ ox oy hdiv hl hR2 q1' hA⟩
end Go.Proofs.YtonhpkigoplmaaaGreatDoor
namespace Go.Proofs.YtonhpkigoplmaaaGreatDoor
open Go.RowKit Go.Extern Ieee

/-- The whole root. -/
def isq (n : Nat) : Nat := Datum.rootFrom n (n.log2 / 2 + 1) 0

/-- By how much a number is shifted ahead of its root. -/
def rk (k : Nat) (e : Int) : Nat := if (e - k) % 2 = 0 then k else k + 1

/-- The root to 55 bits and a mark. -/
def r1 (m : Nat) (e : Int) : Nat := 2 * isq (m * 2 ^ rk 56 e) + if isq (m * 2 ^ rk 56 e) * isq (m * 2 ^ rk 56 e) = m * 2 ^ rk 56 e then 0 else 1

end Go.Proofs.YtonhpkigoplmaaaGreatDoor
namespace Go.Proofs.YtonhpkigoplmaaaGreatDoor
open Go.RowKit Go.Extern Ieee

end Go.Proofs.YtonhpkigoplmaaaGreatDoor
namespace Go.Proofs.YtonhpkigoplmaaaGreatDoor
open Go.RowKit

theorem run_neq_boolF (w : World) (a b : Bool) : (binOp .neq 4 (.bool a) (.bool b)).run Tryz.prog w = .ok (.bool (a != b)) w := by
  cases a <;> cases b <;> kernel_rfl

set_option maxHeartbeats 400000 in
set_option maxRecDepth 100000 in
theorem product_any (xa xb : Value) (sa sb : Bool) (na nb : Nat) (ea eb : Int) (w : World) (ha : NumV w xa sa na ea) (hb : NumV w xb sb nb eb)
    (hla : (digits na).length ≤ 400000) (hlb : (digits nb).length ≤ 400000) (he1 : -400000 ≤ ea) (he2 : ea ≤ 400000) (he3 : -400000 ≤ eb) (he4 : eb ≤ 400000) :
    Calls Tryz.prog 67 #[xa, xb] w fun ev w' => ∃ x, ev = .returned x ∧ NumV w' x ((sa != sb) && decide (na * nb ≠ 0)) (na * nb) (ea + eb) ∧ Below w.heap.size w w' := by
  obtain ⟨ao, la, ca, rfl, hl1, hNa⟩ := ha
  obtain ⟨bo, lb, cb, rfl, hl2, hNb⟩ := hb
  clear hl1 hl2
  have hq := run_neq_boolF
  go_enter Tryz.func67, Tryz.ntmps67
  go_wp2_with fail
  have B0 := blk_old (blk_old (blk_new w (Obj.cells #[.bool sa, .slice ao la ca, .int .i64 ea] 92)) (Obj.cells #[.bool sb, .slice bo lb cb, .int .i64 eb] 92)) (Obj.cells #[.bool false, .slice none 0 0, .int .i64 0] 92)
  have B1 := blk_old (blk_new (w.alloc (Obj.cells #[.bool sa, .slice ao la ca, .int .i64 ea] 92)) (Obj.cells #[.bool sb, .slice bo lb cb, .int .i64 eb] 92)) (Obj.cells #[.bool false, .slice none 0 0, .int .i64 0] 92)
  have B2 := blk_new ((w.alloc (Obj.cells #[.bool sa, .slice ao la ca, .int .i64 ea] 92)).alloc (Obj.cells #[.bool sb, .slice bo lb cb, .int .i64 eb] 92)) (Obj.cells #[.bool false, .slice none 0 0, .int .i64 0] 92)
  have hW : Below w.heap.size w (((w.alloc (Obj.cells #[.bool sa, .slice ao la ca, .int .i64 ea] 92)).alloc (Obj.cells #[.bool sb, .slice bo lb cb, .int .i64 eb] 92)).alloc (Obj.cells #[.bool false, .slice none 0 0, .int .i64 0] 92)) := (((Below.refl _ _).alloc (Nat.le_refl _) _).alloc (by simp) _).alloc (by simp; omega) _
  simp only [World.size_alloc] at B1 B2
  generalize (((w.alloc (Obj.cells #[.bool sa, .slice ao la ca, .int .i64 ea] 92)).alloc (Obj.cells #[.bool sb, .slice bo lb cb, .int .i64 eb] 92)).alloc (Obj.cells #[.bool false, .slice none 0 0, .int .i64 0] 92)) = W2 at *
  refine (times_any na nb _ _ _ (hNa.below hW (Nat.le_refl _)) (hNb.below hW (Nat.le_refl _)) (by omega) (by omega)).mono ?_
  rintro e w3 ⟨v, rfl, hv, hb3⟩
  obtain ⟨vo, vl, vc, rfl, hvl⟩ := hv.slice2
  have hbA : Below w.heap.size w w3 := hW.trans (hb3.mono hW.size)
  have HB2 : Hid (w3.heap[w.heap.size + 1 + 1]? = _) := blk_below B2 hb3
  obtain ⟨k00, k01, k02, -, -, -⟩ := blk3 (blk_below B0 hb3)
  obtain ⟨k10, k11, k12, -, -, -⟩ := blk3 (blk_below B1 hb3)
  obtain ⟨k20, k21, k22, k23, k24, k25⟩ := blk3 HB2.out
  have fin : Hid (∀ b : Bool, b = ((sa != sb) && decide (na * nb ≠ 0)) → ∃ x, Ending.returned (.agg #[.bool b, .slice vo vl vc, .int .i64 (ea + eb)]) = .returned x ∧ NumV (((w3.setCell ⟨w.heap.size + 1 + 1, 0, none⟩ (.bool b)).setCell ⟨w.heap.size + 1 + 1, 1, none⟩ (.slice vo vl vc)).setCell ⟨w.heap.size + 1 + 1, 2, none⟩ (.int .i64 (ea + eb))) x ((sa != sb) && decide (na * nb ≠ 0)) (na * nb) (ea + eb) ∧ Below w.heap.size w (((w3.setCell ⟨w.heap.size + 1 + 1, 0, none⟩ (.bool b)).setCell ⟨w.heap.size + 1 + 1, 1, none⟩ (.slice vo vl vc)).setCell ⟨w.heap.size + 1 + 1, 2, none⟩ (.int .i64 (ea + eb)))) := by
    intro b hb
    have hbx : BoxT w3 (w.heap.size + 1 + 1) 92 := BoxT.of HB2.out
    have K : Keeps w3 (((w3.setCell ⟨w.heap.size + 1 + 1, 0, none⟩ (.bool b)).setCell ⟨w.heap.size + 1 + 1, 1, none⟩ (.slice vo vl vc)).setCell ⟨w.heap.size + 1 + 1, 2, none⟩ (.int .i64 (ea + eb))) := (((Keeps.refl w3).set hbx (by decide)).set hbx.set (by decide)).set hbx.set.set (by decide)
    refine ⟨_, rfl, ?_, ((hbA.setCell (by simp; omega) _).setCell (by simp; omega) _).setCell (by simp; omega) _⟩
    rw [← hb]
    exact ⟨_, _, _, rfl, hvl.out, hv.keeps K⟩
  have hz : (0 < vl) = (na * nb ≠ 0) := by
    have h1 := hvl.out
    have h2 := len_zero_iff (na * nb)
    apply propext
    omega
  clear B0 B1 B2 hb3 hW hbA hNa hNb hv HB2 hla hlb
  by_cases hs : sa = sb
  · have q : ∀ w, (binOp .neq 4 (.bool sa) (.bool sb)).run Tryz.prog w = .ok (.bool false) w := by
      intro w
      rw [run_neq_boolF, hs, bne_self_eq_false]
    have HE : Hid (false = ((sa != sb) && decide (na * nb ≠ 0))) := by show _ = _; rw [hs, bne_self_eq_false, Bool.false_and]
    clear hq hs hz
    go_wp2_with fail
    refine bodyPost_ret (v := .agg #[.bool false, .slice vo vl vc, .int .i64 (ea + eb)]) (by simp [results, Tryz.results67, go_sem, k20, k21, k22]) rfl ?_
    exact fin.out false HE.out
  · have q : ∀ w, (binOp .neq 4 (.bool sa) (.bool sb)).run Tryz.prog w = .ok (.bool true) w := by
      intro w
      rw [run_neq_boolF, (bne_iff_ne).2 hs]
    by_cases h0 : 0 < vl
    · have HE : Hid (true = ((sa != sb) && decide (na * nb ≠ 0))) := by
        show _ = _
        rw [hz] at h0
        rw [(bne_iff_ne).2 hs, decide_eq_true h0]; rfl
      clear hq hs hz
      go_wp2_with fail
      refine bodyPost_ret (v := .agg #[.bool true, .slice vo vl vc, .int .i64 (ea + eb)]) (by simp [results, Tryz.results67, go_sem, k20, k21, k22]) rfl ?_
      exact fin.out true HE.out
    · have HE : Hid (false = ((sa != sb) && decide (na * nb ≠ 0))) := by
        show _ = _
        rw [hz] at h0
        rw [decide_eq_false h0, Bool.and_false]
      have h1 : vl = 0 := by omega
      clear hq hs hz h0
      subst h1
      go_wp2_with fail
      refine bodyPost_ret (v := .agg #[.bool false, .slice vo 0 vc, .int .i64 (ea + eb)]) (by simp [results, Tryz.results67, go_sem, k20, k21, k22]) rfl ?_
      exact fin.out false HE.out
end Go.Proofs.YtonhpkigoplmaaaGreatDoor
namespace Go.Proofs.YtonhpkigoplmaaaGreatDoor
open Go.RowKit

end Go.Proofs.YtonhpkigoplmaaaGreatDoor
namespace Go.Proofs.YtonhpkigoplmaaaGreatDoor
open Go.RowKit

end Go.Proofs.YtonhpkigoplmaaaGreatDoor
namespace Go.Proofs.YtonhpkigoplmaaaGreatDoor
open Go.RowKit

end Go.Proofs.YtonhpkigoplmaaaGreatDoor
namespace Go.Proofs.YtonhpkigoplmaaaGreatDoor
open Go.RowKit

end Go.Proofs.YtonhpkigoplmaaaGreatDoor
namespace Go.Proofs.YtonhpkigoplmaaaGreatDoor
open Go.RowKit

end Go.Proofs.YtonhpkigoplmaaaGreatDoor
namespace Go.Proofs.YtonhpkigoplmaaaGreatDoor
open Go.RowKit

end Go.Proofs.YtonhpkigoplmaaaGreatDoor
namespace Go.Proofs.YtonhpkigoplmaaaGreatDoor
open Go.RowKit

theorem blk_store6 {W : World} {g : Nat} {a b c d e f a' b' c' d' e' f' : Value} {t : TypeId} (h : W.heap[g]? = some (.cells #[a', b', c', d', e', f'] t (0, 0))) :
    ((((((W.setCell ⟨g, 0, none⟩ a).setCell ⟨g, 1, none⟩ b).setCell ⟨g, 2, none⟩ c).setCell ⟨g, 3, none⟩ d).setCell ⟨g, 4, none⟩ e).setCell ⟨g, 5, none⟩ f).heap[g]? = some (.cells #[a, b, c, d, e, f] t (0, 0)) := by
  simp [World.setCell, Array.getElem?_modify, h]

theorem blk6 {W : World} {g : Nat} {a b c d e f : Value} {t : TypeId} (h : W.heap[g]? = some (.cells #[a, b, c, d, e, f] t (0, 0))) :
    W.cell? ⟨g, 0, none⟩ = some a ∧ W.cell? ⟨g, 1, none⟩ = some b ∧ W.cell? ⟨g, 2, none⟩ = some c ∧ W.cell? ⟨g, 3, none⟩ = some d ∧ W.cell? ⟨g, 4, none⟩ = some e ∧ W.cell? ⟨g, 5, none⟩ = some f ∧ W.frozen? ⟨g, 0, none⟩ = false ∧ W.frozen? ⟨g, 1, none⟩ = false ∧ W.frozen? ⟨g, 2, none⟩ = false ∧ W.frozen? ⟨g, 3, none⟩ = false ∧ W.frozen? ⟨g, 4, none⟩ = false ∧ W.frozen? ⟨g, 5, none⟩ = false :=
  ⟨by simp [World.cell?, h], by simp [World.cell?, h], by simp [World.cell?, h], by simp [World.cell?, h], by simp [World.cell?, h], by simp [World.cell?, h], by simp [World.frozen?, h], by simp [World.frozen?, h], by simp [World.frozen?, h], by simp [World.frozen?, h], by simp [World.frozen?, h], by simp [World.frozen?, h]⟩

/-- A plain float's number; 0 for what is none. -/
def plT (b : Nat) : Bool × Nat × Int := (plainN b).getD (false, 0, 0)

/-- A value of type Ival: two numbers. -/
def IvV (w : World) (v : Value) (x y : Bool × Nat × Int) : Prop :=
  ∃ ao la ca bo lb cb, v = .agg #[.bool x.1, .slice ao la ca, .int .i64 x.2.2, .bool y.1, .slice bo lb cb, .int .i64 y.2.2] ∧ la = (digits x.2.1).length ∧ lb = (digits y.2.1).length ∧ NatV w (.slice ao la ca) x.2.1 ∧ NatV w (.slice bo lb cb) y.2.1

theorem posW_lt {b : Nat} (h : b < 18446744073709551616) : posW b < 18446744073709551616 := by unfold posW; split <;> omega

theorem makeN_lt1 {lo hi : Nat} (h : lo < 18446744073709551616) : (makeN lo hi).1 < 18446744073709551616 := by
  unfold makeN
  split
  · show (0 : Nat) < _
    omega
  · split
    · show (0 : Nat) < _
      omega
    · exact posW_lt h

theorem makeN_lt2 {lo hi : Nat} (h : hi < 18446744073709551616) : (makeN lo hi).2.1 < 18446744073709551616 := by
  unfold makeN
  split
  · show (0 : Nat) < _
    omega
  · split
    · show (0 : Nat) < _
      omega
    · exact posW_lt h

set_option maxHeartbeats 1000000 in
set_option maxRecDepth 100000 in
theorem refMade_any (lo hi : Nat) (w : World) (h1 : lo < 18446744073709551616) (h2 : hi < 18446744073709551616) :
    Calls Tryz.prog 60 #[.agg #[.int .u64 (lo : Int), .int .u64 (hi : Int)]] w fun e w' => ∃ v, e = .returned v ∧ IvV w' v (plT (makeN lo hi).1) (plT (makeN lo hi).2.1) ∧ Below w.heap.size w w' := by
  have HM : Hid (∀ w, Calls Tryz.prog 27 #[.agg #[.int .u64 (lo : Int), .int .u64 (hi : Int)]] w fun e w' => e = .returned (.tuple #[.agg #[.int .u64 ((makeN lo hi).1 : Int), .int .u64 ((makeN lo hi).2.1 : Int)], .int .i64 ((makeN lo hi).2.2 : Int)]) ∧ Below w.heap.size w w') := fun w => refMake_any lo hi w h1 h2
  have hm1 : (makeN lo hi).1 < 18446744073709551616 := makeN_lt1 h1
  have hm2 : (makeN lo hi).2.1 < 18446744073709551616 := makeN_lt2 h2
  have HP1 : Hid (∀ w, Calls Tryz.prog 57 #[.int .u64 ((makeN lo hi).1 : Int)] w fun ev w' => ∃ x ok, ev = .returned (.tuple #[x, .bool ok]) ∧ NumV w' x (plT (makeN lo hi).1).1 (plT (makeN lo hi).1).2.1 (plT (makeN lo hi).1).2.2 ∧ Below w.heap.size w w') := fun w => (plain_any _ w hm1).mono (fun ev w' h => by obtain ⟨x, h1, h2, h3⟩ := h; exact ⟨x, _, h1, h2, h3⟩)
  have HP2 : Hid (∀ w, Calls Tryz.prog 57 #[.int .u64 ((makeN lo hi).2.1 : Int)] w fun ev w' => ∃ x ok, ev = .returned (.tuple #[x, .bool ok]) ∧ NumV w' x (plT (makeN lo hi).2.1).1 (plT (makeN lo hi).2.1).2.1 (plT (makeN lo hi).2.1).2.2 ∧ Below w.heap.size w w') := fun w => (plain_any _ w hm2).mono (fun ev w' h => by obtain ⟨x, h1, h2, h3⟩ := h; exact ⟨x, _, h1, h2, h3⟩)
  clear h1 h2 hm1 hm2
  go_enter Tryz.func60, Tryz.ntmps60
  go_wp2_with fail
  have B1 := blk_new (w.alloc (Obj.cells #[.int .u64 (lo : Int), .int .u64 (hi : Int)] 28)) (Obj.cells #[.bool false, .slice none 0 0, .int .i64 0, .bool false, .slice none 0 0, .int .i64 0] 98)
  have hW : Below w.heap.size w ((w.alloc (Obj.cells #[.int .u64 (lo : Int), .int .u64 (hi : Int)] 28)).alloc (Obj.cells #[.bool false, .slice none 0 0, .int .i64 0, .bool false, .slice none 0 0, .int .i64 0] 98)) := ((Below.refl _ _).alloc (Nat.le_refl _) _).alloc (by simp) _
  simp only [World.size_alloc] at B1
  generalize ((w.alloc (Obj.cells #[.int .u64 (lo : Int), .int .u64 (hi : Int)] 28)).alloc (Obj.cells #[.bool false, .slice none 0 0, .int .i64 0, .bool false, .slice none 0 0, .int .i64 0] 98)) = W2 at *
  refine Calls.mono (HM.out _) ?_
  rintro ev w1 ⟨rfl, hb1⟩
  have hW1 : Below w.heap.size w w1 := hW.trans (hb1.mono hW.size)
  have C1 := blk_below B1 hb1
  clear hb1 hW B1
  have C0 := blk_new w1 (Obj.cells #[.int .u64 ((makeN lo hi).1 : Int), .int .u64 ((makeN lo hi).2.1 : Int)] 28)
  have C1' := blk_old C1 (Obj.cells #[.int .u64 ((makeN lo hi).1 : Int), .int .u64 ((makeN lo hi).2.1 : Int)] 28)
  have hW1' := hW1.alloc hW1.size (Obj.cells #[.int .u64 ((makeN lo hi).1 : Int), .int .u64 ((makeN lo hi).2.1 : Int)] 28)
  go_wp2_with fail
  generalize (w1.alloc (Obj.cells #[.int .u64 ((makeN lo hi).1 : Int), .int .u64 ((makeN lo hi).2.1 : Int)] 28)) = W3 at *
  refine Calls.mono (HP1.out _) ?_
  rintro ev w2 ⟨x, ok1, rfl, ⟨ao, la, ca, rfl, hla, hna⟩, hb2⟩
  have HLA : Hid (la = (digits (plT (makeN lo hi).1).2.1).length) := hla
  have hW2 : Below w.heap.size w w2 := hW1'.trans (hb2.mono hW1'.size)
  have D0 := blk_below C0 hb2
  have D1 := blk_below C1' hb2
  obtain ⟨m0, m1, -, -⟩ := blk2 D0
  have hlt := lt_of_cell m1
  have E1 := blk_old D1 (Obj.cells #[.bool (plT (makeN lo hi).1).1, .slice ao la ca, .int .i64 (plT (makeN lo hi).1).2.2] 92)
  have E2 := blk_new w2 (Obj.cells #[.bool (plT (makeN lo hi).1).1, .slice ao la ca, .int .i64 (plT (makeN lo hi).1).2.2] 92)
  have hW3 := hW2.alloc hW2.size (Obj.cells #[.bool (plT (makeN lo hi).1).1, .slice ao la ca, .int .i64 (plT (makeN lo hi).1).2.2] 92)
  have hna3 := hna.below ((Below.refl _ w2).alloc (Nat.le_refl _) (Obj.cells #[.bool (plT (makeN lo hi).1).1, .slice ao la ca, .int .i64 (plT (makeN lo hi).1).2.2] 92)) (Nat.le_refl _)
  clear hb2 hW1' C0 C1' C1 hW1 m0 hla D1
  go_wp2_with fail
  clear hlt m1 D0 hW2 hna
  generalize (w2.alloc (Obj.cells #[.bool (plT (makeN lo hi).1).1, .slice ao la ca, .int .i64 (plT (makeN lo hi).1).2.2] 92)) = W4 at *
  refine Calls.mono (HP2.out _) ?_
  rintro ev w5 ⟨x, ok2, rfl, ⟨bo, lb, cb, rfl, hlb, hnb⟩, hb5⟩
  have HLB : Hid (lb = (digits (plT (makeN lo hi).2.1).2.1).length) := hlb
  have hW5 : Below w.heap.size w w5 := hW3.trans (hb5.mono hW3.size)
  have F1 := blk_below E1 hb5
  have F2 := blk_below E2 hb5
  have hna5 := hna3.below hb5 (Nat.le_refl _)
  obtain ⟨m0, m1, m2, -, -, -⟩ := blk3 F2
  have hlt := lt_of_cell m0
  have hlt2 := lt_of_row F1
  have S1 := blk_store6 (a := .bool (plT (makeN lo hi).1).1) (b := .slice ao la ca) (c := .int .i64 (plT (makeN lo hi).1).2.2) (d := .bool (plT (makeN lo hi).2.1).1) (e := .slice bo lb cb) (f := .int .i64 (plT (makeN lo hi).2.1).2.2) F1
  obtain ⟨q0, q1, q2, q3, q4, q5, -, -, -, -, -, -⟩ := blk6 (blk_old S1 (Obj.cells #[.bool (plT (makeN lo hi).2.1).1, .slice bo lb cb, .int .i64 (plT (makeN lo hi).2.1).2.2] 92))
  obtain ⟨k0, k1, k2, k3, k4, k5, f0, f1, f2, f3, f4, f5⟩ := blk6 F1
  have b0 : BoxT w5 (w.heap.size + 1) 98 := BoxT.of F1
  have K := ((((((Keeps.refl w5).set (j := 0) (u := .bool (plT (makeN lo hi).1).1) b0 (by decide)).set (j := 1) (u := .slice ao la ca) b0.set (by decide)).set (j := 2) (u := .int .i64 (plT (makeN lo hi).1).2.2) b0.set.set (by decide)).set (j := 3) (u := .bool (plT (makeN lo hi).2.1).1) b0.set.set.set (by decide)).set (j := 4) (u := .slice bo lb cb) b0.set.set.set.set (by decide)).set (j := 5) (u := .int .i64 (plT (makeN lo hi).2.1).2.2) b0.set.set.set.set.set (by decide)
  have K2 := K.trans (Keeps.alloc ((((((w5.setCell ⟨w.heap.size + 1, 0, none⟩ (.bool (plT (makeN lo hi).1).1)).setCell ⟨w.heap.size + 1, 1, none⟩ (.slice ao la ca)).setCell ⟨w.heap.size + 1, 2, none⟩ (.int .i64 (plT (makeN lo hi).1).2.2)).setCell ⟨w.heap.size + 1, 3, none⟩ (.bool (plT (makeN lo hi).2.1).1)).setCell ⟨w.heap.size + 1, 4, none⟩ (.slice bo lb cb)).setCell ⟨w.heap.size + 1, 5, none⟩ (.int .i64 (plT (makeN lo hi).2.1).2.2)) (Obj.cells #[.bool (plT (makeN lo hi).2.1).1, .slice bo lb cb, .int .i64 (plT (makeN lo hi).2.1).2.2] 92))
  have HNA : Hid (NatV (((((((w5.setCell ⟨w.heap.size + 1, 0, none⟩ (.bool (plT (makeN lo hi).1).1)).setCell ⟨w.heap.size + 1, 1, none⟩ (.slice ao la ca)).setCell ⟨w.heap.size + 1, 2, none⟩ (.int .i64 (plT (makeN lo hi).1).2.2)).setCell ⟨w.heap.size + 1, 3, none⟩ (.bool (plT (makeN lo hi).2.1).1)).setCell ⟨w.heap.size + 1, 4, none⟩ (.slice bo lb cb)).setCell ⟨w.heap.size + 1, 5, none⟩ (.int .i64 (plT (makeN lo hi).2.1).2.2)).alloc (Obj.cells #[.bool (plT (makeN lo hi).2.1).1, .slice bo lb cb, .int .i64 (plT (makeN lo hi).2.1).2.2] 92)) (.slice ao la ca) (plT (makeN lo hi).1).2.1) := hna5.keeps K2
  have HNB : Hid (NatV (((((((w5.setCell ⟨w.heap.size + 1, 0, none⟩ (.bool (plT (makeN lo hi).1).1)).setCell ⟨w.heap.size + 1, 1, none⟩ (.slice ao la ca)).setCell ⟨w.heap.size + 1, 2, none⟩ (.int .i64 (plT (makeN lo hi).1).2.2)).setCell ⟨w.heap.size + 1, 3, none⟩ (.bool (plT (makeN lo hi).2.1).1)).setCell ⟨w.heap.size + 1, 4, none⟩ (.slice bo lb cb)).setCell ⟨w.heap.size + 1, 5, none⟩ (.int .i64 (plT (makeN lo hi).2.1).2.2)).alloc (Obj.cells #[.bool (plT (makeN lo hi).2.1).1, .slice bo lb cb, .int .i64 (plT (makeN lo hi).2.1).2.2] 92)) (.slice bo lb cb) (plT (makeN lo hi).2.1).2.1) := hnb.keeps K2
  have HW6 : Hid (Below w.heap.size w (((((((w5.setCell ⟨w.heap.size + 1, 0, none⟩ (.bool (plT (makeN lo hi).1).1)).setCell ⟨w.heap.size + 1, 1, none⟩ (.slice ao la ca)).setCell ⟨w.heap.size + 1, 2, none⟩ (.int .i64 (plT (makeN lo hi).1).2.2)).setCell ⟨w.heap.size + 1, 3, none⟩ (.bool (plT (makeN lo hi).2.1).1)).setCell ⟨w.heap.size + 1, 4, none⟩ (.slice bo lb cb)).setCell ⟨w.heap.size + 1, 5, none⟩ (.int .i64 (plT (makeN lo hi).2.1).2.2)).alloc (Obj.cells #[.bool (plT (makeN lo hi).2.1).1, .slice bo lb cb, .int .i64 (plT (makeN lo hi).2.1).2.2] 92))) := ((((((hW5.setCell (by simp) _).setCell (by simp) _).setCell (by simp) _).setCell (by simp) _).setCell (by simp) _).setCell (by simp) _).alloc (by have := hW5.size; simp; omega) _
  clear hb5 hW3 E1 E2 hna3 hlb F1 F2 hW5 hna5 hnb HP1 HP2 HM K K2 b0 S1
  go_wp2_with fail
  refine bodyPost_ret (v := .agg #[.bool (plT (makeN lo hi).1).1, .slice ao la ca, .int .i64 (plT (makeN lo hi).1).2.2, .bool (plT (makeN lo hi).2.1).1, .slice bo lb cb, .int .i64 (plT (makeN lo hi).2.1).2.2]) (by simp [results, Tryz.results60, go_sem, q0, q1, q2, q3, q4, q5]) rfl ?_
  exact ⟨_, rfl, ⟨_, _, _, _, _, _, rfl, HLA.out, HLB.out, HNA.out, HNB.out⟩, HW6.out⟩
end Go.Proofs.YtonhpkigoplmaaaGreatDoor
namespace Go.Proofs.YtonhpkigoplmaaaGreatDoor
open Go.RowKit

/-- Does an interval hold 0? -/
def holdsT (x y : Bool × Nat × Int) : Bool := decide (sgnI x.1 x.2.1 ≤ 0) && decide (0 ≤ sgnI y.1 y.2.1)

end Go.Proofs.YtonhpkigoplmaaaGreatDoor
namespace Go.Proofs.YtonhpkigoplmaaaGreatDoor
open Go.RowKit

def lessT (x y : Bool × Nat × Int) : Bool := lessN x.1 x.2.1 x.2.2 y.1 y.2.1 y.2.2

end Go.Proofs.YtonhpkigoplmaaaGreatDoor
namespace Go.Proofs.YtonhpkigoplmaaaGreatDoor
open Go.RowKit

end Go.Proofs.YtonhpkigoplmaaaGreatDoor
namespace Go.Proofs.YtonhpkigoplmaaaGreatDoor
open Go.RowKit

end Go.Proofs.YtonhpkigoplmaaaGreatDoor
namespace Go.Proofs.YtonhpkigoplmaaaGreatDoor
open Go.RowKit Go.Extern.Stop Go.Stop Go.Extern

theorem c_typeOfOE (v : Value) (w : World) : (ReflectliteType.typeOf #[.iface 136 v]).run Tryz.prog w = .ok (.iface 216 (.agg #[.pointer (some ⟨11, 136, none⟩)])) w := by kernel_rfl
theorem c_assignableOE (w : World) : (ReflectliteType.relation "AssignableTo" ReflectliteType.assignableTo #[.agg #[.pointer (some ⟨11, 136, none⟩)], .iface 216 (.agg #[.pointer (some ⟨11, 136, none⟩)])]).run Tryz.prog w = .ok (.bool true) w := by kernel_rfl
theorem c_valueOfOE (e : Addr) (w : World) : (ReflectliteValue.unpack (.iface 136 (.pointer (some e)))).run Tryz.prog w
    = .ok (.agg #[.pointer (some ⟨11, 136, none⟩), .pointer (some ⟨w.heap.size, 0, none⟩), .int .u64 150]) (w.alloc (.cells #[.pointer (some e)] 136)) := by kernel_rfl
theorem c_elemTPP (w : World) : (Rtype.elem? 141).run Tryz.prog w = .ok (some 136) w := by kernel_rfl
theorem c_mkOE (p : Addr) (w : World) : (ReflectliteValue.mk 136 p ReflectliteValue.flagAddr).run Tryz.prog w = .ok (.agg #[.pointer (some ⟨11, 136, none⟩), .pointer (some p), .int .u64 406]) w := by kernel_rfl
theorem c_elemVPP (a p : Addr) (W : World) (ha : W.cell? a = some (.pointer (some p))) :
    (ReflectliteValue.method (ReflectliteValue.valueError "reflectlite.Value.Elem" 0) ReflectliteValue.elem #[.agg #[.pointer (some ⟨11, 141, none⟩), .pointer (some a), .int .u64 150]]).run Tryz.prog W
      = .ok (.agg #[.pointer (some ⟨11, 136, none⟩), .pointer (some p), .int .u64 406]) W := by
  rw [rlm]
  simp only [Sem.run_bind, c_partsPP, Result.andThen]
  simp [ReflectliteValue.elem, loadVar, isAgg, underlying, Tryz.underlying141, ha, Result.andThen, c_elemTPP, c_mkOE]
theorem c_partsOEa (a : Addr) (w : World) : (ReflectliteValue.parts (.agg #[.pointer (some ⟨11, 136, none⟩), .pointer (some a), .int .u64 406])).run Tryz.prog w = .ok (some (136, a, 406)) w := by kernel_rfl
theorem c_partsOE (a : Addr) (w : World) : (ReflectliteValue.parts (.agg #[.pointer (some ⟨11, 136, none⟩), .pointer (some a), .int .u64 150])).run Tryz.prog w = .ok (some (136, a, 150)) w := by kernel_rfl
theorem c_directOE (w : World) : (Rtype.directlyAssignable 136 136).run Tryz.prog w = .ok true w := by kernel_rfl
theorem c_setOE (ta b e : Addr) (old : Value) (W : World) (hb : W.cell? b = some (.pointer (some e))) (ht : W.cell? ta = some old) (hf : W.frozen? ta = false) :
    (ReflectliteValue.set #[.agg #[.pointer (some ⟨11, 136, none⟩), .pointer (some ta), .int .u64 406], .agg #[.pointer (some ⟨11, 136, none⟩), .pointer (some b), .int .u64 150]]).run Tryz.prog W
      = .ok (.tuple #[]) (W.setCell ta (.pointer (some e))) := by
  unfold ReflectliteValue.set
  delta ReflectliteValue.set.match_3
  simp only [Array.getLit, List.size_toArray, List.length_cons, List.length_nil, Nat.zero_add, Nat.reduceAdd, dite_true, List.getElem_toArray, List.getElem_cons_zero, List.getElem_cons_succ]
  simp only [Sem.run_bind, c_partsOEa, c_partsOE, Result.andThen]
  simp [ReflectliteValue.flagAddr, loadVar, isAgg, underlying, Tryz.underlying136, hb, Result.andThen, c_directOE, storeVar, Value.cells, storeCells, Addr.add]
  rw [run_store Tryz.prog W ta _ _ (by rfl)]
  simp [ht, hf]

set_option maxHeartbeats 4000000 in
/-- errors.As(x, &o), x an *OpError: true; o is x. -/
theorem as_hit (e t : Addr) (old : Value) (w : World) (hg : w.cell? ⟨9, 0, none⟩ = some (.iface 216 (.agg #[.pointer (some ⟨11, 70, none⟩)]))) (ht0 : w.cell? t = some old) (hf0 : w.frozen? t = false) :
    Calls Tryz.prog 96 #[.iface 136 (.pointer (some e)), .iface 141 (.pointer (some t))] w fun ev w' => ev = .returned (.bool true) ∧ ∃ w1, Below w.heap.size w w1 ∧ w' = w1.setCell t (.pointer (some e)) := by
  have h6 := @run_callFunc_extern Tryz.prog 146 _ (fun args => ReflectliteValue.unpack (args.getD 0 (.tuple #[]))) Tryz.func146 (by kernel_rfl) (by kernel_rfl) (by kernel_rfl) (by kernel_rfl)
  have h7 := @run_callFunc_extern Tryz.prog 147 _ (ReflectliteValue.methodAny (ReflectliteValue.valueError "reflectlite.Value.Type" 0) (fun t _ _ _ => ReflectliteType.toType t)) Tryz.func147 (by kernel_rfl) (by kernel_rfl) (by kernel_rfl) (by kernel_rfl)
  have h8 := @run_callFunc_extern Tryz.prog 148 _ (ReflectliteValue.method (ReflectliteValue.valueError "reflectlite.Value.IsNil" 0) ReflectliteValue.isNil) Tryz.func148 (by kernel_rfl) (by kernel_rfl) (by kernel_rfl) (by kernel_rfl)
  have h27 := @run_callFunc_extern Tryz.prog 197 _ (ReflectliteType.abiMethod fun t => do pure (.int .u8 (← Rtype.kind t))) Tryz.func197 (by kernel_rfl) (by kernel_rfl) (by kernel_rfl) (by kernel_rfl)
  have h37 := @run_callFunc_extern Tryz.prog 207 _ (ReflectliteType.method ReflectliteType.elem) Tryz.func207 (by kernel_rfl) (by kernel_rfl) (by kernel_rfl) (by kernel_rfl)
  have h38 := @run_callFunc_extern Tryz.prog 208 _ (ReflectliteType.relation "Implements" ReflectliteType.implements_) Tryz.func208 (by kernel_rfl) (by kernel_rfl) (by kernel_rfl) (by kernel_rfl)
  have h10 := @run_callFunc_extern Tryz.prog 150 _ ReflectliteType.typeOf Tryz.func150 (by kernel_rfl) (by kernel_rfl) (by kernel_rfl) (by kernel_rfl)
  have h35 := @run_callFunc_extern Tryz.prog 205 _ (ReflectliteType.relation "AssignableTo" ReflectliteType.assignableTo) Tryz.func205 (by kernel_rfl) (by kernel_rfl) (by kernel_rfl) (by kernel_rfl)
  have h11 := @run_callFunc_extern Tryz.prog 175 _ (ReflectliteValue.method (ReflectliteValue.valueError "reflectlite.Value.Elem" 0) ReflectliteValue.elem) Tryz.func175 (by kernel_rfl) (by kernel_rfl) (by kernel_rfl) (by kernel_rfl)
  have h12 := @run_callFunc_extern Tryz.prog 176 _ ReflectliteValue.set Tryz.func176 (by kernel_rfl) (by kernel_rfl) (by kernel_rfl) (by kernel_rfl)
  have tO := c_typeOfOE
  have mA := c_methodAssignableTo
  have a25 := c_assignableOE
  have v25 := c_valueOfOE
  have f6 := c_valueOfPP
  have f7 := c_typePP
  have mK := c_methodKind
  have mE := c_methodElem
  have mI := c_methodImplements
  have k27 := c_kindPP
  have k25 := c_kindPE
  have e27 := c_elemPP
  have i25 := c_implementsPE
  have n8 := c_isNilPP ⟨w.heap.size, 0, none⟩ t ((w.alloc (.cells #[.pointer (some t)] 141)).alloc (.cells #[.pointer (some ⟨11, 141, none⟩), .pointer (some ⟨w.heap.size, 0, none⟩), .int .u64 150] 186)) (by simp)
  have hlt := lt_of_cell hg
  have hg2 : ((w.alloc (.cells #[.pointer (some t)] 141)).alloc (.cells #[.pointer (some ⟨11, 141, none⟩), .pointer (some ⟨w.heap.size, 0, none⟩), .int .u64 150] 186)).cell? ⟨9, 0, none⟩ = some (.iface 216 (.agg #[.pointer (some ⟨11, 70, none⟩)])) := by
    rw [World.cell?_alloc_lt _ _ ⟨9, 0, none⟩ (by simp at hlt ⊢; omega), World.cell?_alloc_lt _ _ ⟨9, 0, none⟩ hlt]; exact hg
  have htl := lt_of_cell ht0
  have el := c_elemVPP ⟨w.heap.size, 0, none⟩ t (((w.alloc (.cells #[.pointer (some t)] 141)).alloc (.cells #[.pointer (some ⟨11, 141, none⟩), .pointer (some ⟨w.heap.size, 0, none⟩), .int .u64 150] 186)).alloc (.cells #[.pointer (some ⟨11, 141, none⟩), .pointer (some ⟨w.heap.size, 0, none⟩), .int .u64 150] 186)) (by rw [World.cell?_alloc_lt _ _ ⟨w.heap.size, 0, none⟩ (by simp; omega)]; simp)
  have st := c_setOE t ⟨w.heap.size + 1 + 1 + 1, 0, none⟩ e old ((((w.alloc (.cells #[.pointer (some t)] 141)).alloc (.cells #[.pointer (some ⟨11, 141, none⟩), .pointer (some ⟨w.heap.size, 0, none⟩), .int .u64 150] 186)).alloc (.cells #[.pointer (some ⟨11, 141, none⟩), .pointer (some ⟨w.heap.size, 0, none⟩), .int .u64 150] 186)).alloc (.cells #[.pointer (some e)] 136))
    (by rw [World.cell?_alloc_at _ _ _ _ (by simp)]; rfl)
    (by rw [World.cell?_alloc_lt _ _ t (by simp; omega), World.cell?_alloc_lt _ _ t (by simp; omega), World.cell?_alloc_lt _ _ t (by simp; omega), World.cell?_alloc_lt _ _ t htl]; exact ht0)
    (by rw [World.frozen?_alloc_old _ _ t (by simp; omega), World.frozen?_alloc_old _ _ t (by simp; omega), World.frozen?_alloc_old _ _ t (by simp; omega), World.frozen?_alloc_old _ _ t (Nat.ne_of_lt htl)]; exact hf0)
  go_enter Tryz.func96, Tryz.ntmps96
  go_wp2
  refine wp_loop_rounds 1 ?_
  rw [rounds_succ]
  go_wp2
  go_ret
  exact ⟨rfl, _, ((((Below.refl _ _).alloc (Nat.le_refl _) _).alloc (by simp) _).alloc (by simp; omega) _).alloc (by simp; omega) _, rfl⟩
end Go.Proofs.YtonhpkigoplmaaaGreatDoor
namespace Go.Proofs.YtonhpkigoplmaaaGreatDoor
open Go.RowKit Go.Extern.Stop Go.Stop Go.Extern

theorem c_methodUnwrap (p : Addr) (w : World) : (Go.method 363 136 (.pointer (some p)) "Unwrap").run Tryz.prog w = .ok (97, .pointer (some p)) w := by kernel_rfl
theorem c_noIsOE (v : Value) (xT : TypeId) (w : World) : (Instr.typeAssert (.iface 136 v) xT 226 true).run Tryz.prog w = .ok (.tuple #[.nilIface, .bool false]) w := run_typeAssert_lacksB Tryz.underlying226 (by kernel_rfl) (by kernel_rfl) v xT w
theorem c_unwrapOE (v : Value) (xT : TypeId) (w : World) : (Instr.typeAssert (.iface 136 v) xT 223 true).run Tryz.prog w = .ok (.tuple #[.iface 136 v, .bool true]) w := run_typeAssert_hasB Tryz.underlying223 (by kernel_rfl) v xT w

theorem unwrap_any (b : Nat) (s : ByteArray) (e : Value) (w : World) (h : w.heap[b]? = some (.cells #[.string s, e] 138 (0, 0))) : Calls Tryz.prog 97 #[.pointer (some ⟨b, 0, none⟩)] w fun ev w' => ev = .returned e ∧ w' = w := by
  have hc : w.cell? ⟨b, 1, none⟩ = some e := by simp [World.cell?, h]
  go_enter Tryz.func97, Tryz.ntmps97
  go_wp2
  go_ret
  exact ⟨rfl, rfl⟩

/-- errors.Is(x, y), x an *OpError that holds y. -/
theorem is_wrap_same (b : Nat) (s : ByteArray) (a : Addr) (w : World) (h : w.heap[b]? = some (.cells #[.string s, .iface 229 (.pointer (some a))] 138 (0, 0))) :
    Calls Tryz.prog 98 #[.iface 136 (.pointer (some ⟨b, 0, none⟩)), .iface 229 (.pointer (some a))] w fun e w' => e = .returned (.bool true) ∧ w' = w := by
  obtain ⟨i, hi, hcmp⟩ := Option.map_eq_some_iff.1 c_compES
  obtain ⟨j, hj, hjs⟩ := Option.map_eq_some_iff.1 c_sizeES
  have h8 := @run_callFunc_extern Tryz.prog 150 _ Extern.ReflectliteType.typeOf Tryz.func150 (by kernel_rfl) (by kernel_rfl) (by kernel_rfl) (by kernel_rfl)
  have h32 := @run_callFunc_extern Tryz.prog 206 _ (Extern.ReflectliteType.method cmpEntry) Tryz.func206 (by kernel_rfl) (by kernel_rfl) (by kernel_rfl) (by kernel_rfl)
  have tT := c_typeOfES
  have cT := c_comparable
  have mR := c_methodComparable
  have mU := c_methodUnwrap ⟨b, 0, none⟩
  have nI := c_noIsOE
  have uO := c_unwrapOE
  have hne := run_eql_iface_types (P := Tryz.prog) 136 229 (.pointer (some ⟨b, 0, none⟩)) (.pointer (some a)) Tryz.underlying70 (by decide)
  have heq := run_eql_iface_ptr_same (P := Tryz.prog) w a Tryz.underlying70 Tryz.underlying229 hi hcmp hj
  have HU : Hid (∀ w, w.heap[b]? = some (.cells #[.string s, .iface 229 (.pointer (some a))] 138 (0, 0)) → Calls Tryz.prog 97 #[.pointer (some ⟨b, 0, none⟩)] w fun ev w' => ev = .returned (.iface 229 (.pointer (some a))) ∧ w' = w) := fun w h => unwrap_any b s _ w h
  have H : Hid (w.heap[b]? = some (.cells #[.string s, .iface 229 (.pointer (some a))] 138 (0, 0))) := h
  clear h
  go_enter Tryz.func98, Tryz.ntmps98
  go_wp2
  refine wp_loop_rounds 2 ?_
  rw [rounds_succ]
  go_wp2_with fail
  refine Calls.mono (HU.out _ H.out) ?_
  rintro e w' ⟨rfl, rfl⟩
  go_wp2_with fail
  rw [rounds_succ]
  go_wp2
  go_ret
  exact ⟨rfl, rfl⟩

/-- errors.Is(x, y), x an *OpError that holds another one. -/
theorem is_wrap_other (b : Nat) (s : ByteArray) (a c : Addr) (ca cb : Array Value) (ta tb : TypeId) (w : World) (hac : a ≠ c) (ha : w.heap[a.block]? = some (.cells ca ta (0, 0))) (hb : w.heap[c.block]? = some (.cells cb tb (0, 0))) (h : w.heap[b]? = some (.cells #[.string s, .iface 229 (.pointer (some a))] 138 (0, 0))) :
    Calls Tryz.prog 98 #[.iface 136 (.pointer (some ⟨b, 0, none⟩)), .iface 229 (.pointer (some c))] w fun e w' => e = .returned (.bool false) ∧ w' = w := by
  obtain ⟨i, hi, hcmp⟩ := Option.map_eq_some_iff.1 c_compES
  obtain ⟨j, hj, hjs⟩ := Option.map_eq_some_iff.1 c_sizeES
  have h8 := @run_callFunc_extern Tryz.prog 150 _ Extern.ReflectliteType.typeOf Tryz.func150 (by kernel_rfl) (by kernel_rfl) (by kernel_rfl) (by kernel_rfl)
  have h32 := @run_callFunc_extern Tryz.prog 206 _ (Extern.ReflectliteType.method cmpEntry) Tryz.func206 (by kernel_rfl) (by kernel_rfl) (by kernel_rfl) (by kernel_rfl)
  have tT := c_typeOfES
  have cT := c_comparable
  have mR := c_methodComparable
  have mU := c_methodUnwrap ⟨b, 0, none⟩
  have nI := c_noIsOE
  have uO := c_unwrapOE
  have hne := run_eql_iface_types (P := Tryz.prog) 136 229 (.pointer (some ⟨b, 0, none⟩)) (.pointer (some c)) Tryz.underlying70 (by decide)
  have nE := c_noIsES
  have uE := c_noUnwrapES
  have vE := c_noUnwrapsES
  have heq := run_eql_iface_ptr_other (P := Tryz.prog) w Tryz.underlying70 Tryz.underlying229 hi hcmp hj (by rw [hjs]; decide) hac ha hb
  clear ha hb
  have HU : Hid (∀ w, w.heap[b]? = some (.cells #[.string s, .iface 229 (.pointer (some a))] 138 (0, 0)) → Calls Tryz.prog 97 #[.pointer (some ⟨b, 0, none⟩)] w fun ev w' => ev = .returned (.iface 229 (.pointer (some a))) ∧ w' = w) := fun w h => unwrap_any b s _ w h
  have H : Hid (w.heap[b]? = some (.cells #[.string s, .iface 229 (.pointer (some a))] 138 (0, 0))) := h
  clear h
  go_enter Tryz.func98, Tryz.ntmps98
  go_wp2
  refine wp_loop_rounds 2 ?_
  rw [rounds_succ]
  go_wp2_with fail
  refine Calls.mono (HU.out _ H.out) ?_
  rintro e w' ⟨rfl, rfl⟩
  go_wp2_with fail
  rw [rounds_succ]
  go_wp2
  go_ret
  exact ⟨rfl, rfl⟩
end Go.Proofs.YtonhpkigoplmaaaGreatDoor
namespace Go.Proofs.YtonhpkigoplmaaaGreatDoor
open Go.RowKit Go.Extern.Stop Go.Stop Go.Extern

set_option maxRecDepth 100000 in
set_option maxHeartbeats 4000000 in
theorem code_op (A : Nat → Addr) (w : World) (b i : Nat) (s : ByteArray) (hi : i < 9) (hS : Sents A w) (h : w.heap[b]? = some (.cells #[.string s, .iface 229 (.pointer (some (A i)))] 138 (0, 0))) :
    Calls Tryz.prog 49 #[.iface 136 (.pointer (some ⟨b, 0, none⟩))] w fun e w' => e = .returned (.tuple #[.int .i64 (i + 1 : Nat), .string s]) ∧ Below w.heap.size w w' := by
  obtain ⟨i', hi', hcmp⟩ := Option.map_eq_some_iff.1 c_compES
  obtain ⟨j', hj', hjs⟩ := Option.map_eq_some_iff.1 c_sizeES
  have hneq : ∀ w, (binOp .neq 70 (.iface 229 (.pointer (some (A i)))) (.iface 229 (.pointer (some (A i))))).run Tryz.prog w = .ok (.bool false) w := by
    intro w
    simp only [binOp]
    simp [Op.equal, Op.maxDepth, run_equalIn_iface_ptr_same w 9998 (A i) Tryz.underlying70 Tryz.underlying229 hi' hcmp hj']
  clear hi' hj' hcmp hjs
  go_enter Tryz.func49, Tryz.ntmps49
  go_wp2_with fail
  refine (as_hit _ _ (.pointer none) _ (hS.alloc _).ty (by simp) (by simp)).mono ?_
  rintro e w0 ⟨rfl, w1', hb0, rfl⟩
  have hbA : Below w.heap.size w (w1'.setCell ⟨w.heap.size, 0, none⟩ (.pointer (some ⟨b, 0, none⟩))) := (((Below.refl _ _).alloc (Nat.le_refl _) _).trans (hb0.mono (by simp))).setCell (by simp) _
  have k0 : (w1'.setCell ⟨w.heap.size, 0, none⟩ (.pointer (some ⟨b, 0, none⟩))).cell? ⟨w.heap.size, 0, none⟩ = some (.pointer (some ⟨b, 0, none⟩)) := by
    have := blk_below (blk_new w _) hb0
    simp [World.cell?, World.setCell, Array.getElem?_modify, this]
  have h2 : (w1'.setCell ⟨w.heap.size, 0, none⟩ (.pointer (some ⟨b, 0, none⟩))).heap[b]? = some (.cells #[.string s, .iface 229 (.pointer (some (A i)))] 138 (0, 0)) := by
    rw [hbA.block _ (lt_of_row h)]; exact h
  have hS1 := hS.below hbA (Nat.le_refl _)
  have hb := hbA
  clear hb0 hbA h
  generalize w1'.setCell ⟨w.heap.size, 0, none⟩ (.pointer (some ⟨b, 0, none⟩)) = w1 at *
  have k1 : w1.cell? ⟨b, 0, none⟩ = some (.string s) := by simp [World.cell?, h2]
  have k2 : w1.cell? ⟨b, 1, none⟩ = some (.iface 229 (.pointer (some (A i)))) := by simp [World.cell?, h2]
  go_wp2_with fail
  have H2 : Hid (w1.heap[b]? = some (.cells #[.string s, .iface 229 (.pointer (some (A i)))] 138 (0, 0))) := h2
  have HS1 : Hid (Sents A w1) := hS1
  have HB : Hid (Below w.heap.size w w1) := hb
  clear h2 hS1 hb hS
  go_region_held3 (fun W => W.cell? ⟨w.heap.size, 0, none⟩ = some (.pointer (some ⟨b, 0, none⟩)) ∧ W.cell? ⟨b, 1, none⟩ = some (.iface 229 (.pointer (some (A i))))) (first | (go_keep; done) | (refine ⟨?_, ?_⟩ <;> first | (go_keep; done) | assumption))
    (first | (go_at_call 97; refine (unwrap_any b s _ _ (show (w1.drew).heap[b]? = _ from H2.out)).mono ?_; rintro e w3 ⟨rfl, rfl⟩))
  have hS1 : Sents A w1.drew := HS1.out.below (Below.refl _ _).drew (Nat.le_refl _)
  have hb : Below w.heap.size w w1.drew := HB.out.drew
  have h2 : w1.drew.heap[b]? = some (.cells #[.string s, .iface 229 (.pointer (some (A i)))] 138 (0, 0)) := H2.out
  clear HS1 HB H2 k0 k1 k2 hneq
  generalize w1.drew = w1 at *
  have c0 : w1.cell? ⟨3, 0, none⟩ = some (.iface 229 (.pointer (some (A 0)))) := hS1.cell 0 (by omega)
  have c1 : w1.cell? ⟨4, 0, none⟩ = some (.iface 229 (.pointer (some (A 1)))) := hS1.cell 1 (by omega)
  have c2 : w1.cell? ⟨5, 0, none⟩ = some (.iface 229 (.pointer (some (A 2)))) := hS1.cell 2 (by omega)
  have c3 : w1.cell? ⟨1, 0, none⟩ = some (.iface 229 (.pointer (some (A 3)))) := hS1.cell 3 (by omega)
  have c4 : w1.cell? ⟨2, 0, none⟩ = some (.iface 229 (.pointer (some (A 4)))) := hS1.cell 4 (by omega)
  have c5 : w1.cell? ⟨0, 0, none⟩ = some (.iface 229 (.pointer (some (A 5)))) := hS1.cell 5 (by omega)
  have c6 : w1.cell? ⟨6, 0, none⟩ = some (.iface 229 (.pointer (some (A 6)))) := hS1.cell 6 (by omega)
  have c7 : w1.cell? ⟨7, 0, none⟩ = some (.iface 229 (.pointer (some (A 7)))) := hS1.cell 7 (by omega)
  have c8 : w1.cell? ⟨8, 0, none⟩ = some (.iface 229 (.pointer (some (A 8)))) := hS1.cell 8 (by omega)
  go_wp2_with fail
  have hS2 := hS1.alloc (Obj.cells #[Value.iface 229 (Value.pointer (some (A 0))), Value.iface 229 (Value.pointer (some (A 1))), Value.iface 229 (Value.pointer (some (A 2))), Value.iface 229 (Value.pointer (some (A 3))), Value.iface 229 (Value.pointer (some (A 4))), Value.iface 229 (Value.pointer (some (A 5))), Value.iface 229 (Value.pointer (some (A 6))), Value.iface 229 (Value.pointer (some (A 7))), Value.iface 229 (Value.pointer (some (A 8)))] 70)
  have hb2 := hb.alloc hb.size (Obj.cells #[Value.iface 229 (Value.pointer (some (A 0))), Value.iface 229 (Value.pointer (some (A 1))), Value.iface 229 (Value.pointer (some (A 2))), Value.iface 229 (Value.pointer (some (A 3))), Value.iface 229 (Value.pointer (some (A 4))), Value.iface 229 (Value.pointer (some (A 5))), Value.iface 229 (Value.pointer (some (A 6))), Value.iface 229 (Value.pointer (some (A 7))), Value.iface 229 (Value.pointer (some (A 8)))] 70)
  have hl : ∀ k, k < 9 → (w1.alloc (Obj.cells #[Value.iface 229 (Value.pointer (some (A 0))), Value.iface 229 (Value.pointer (some (A 1))), Value.iface 229 (Value.pointer (some (A 2))), Value.iface 229 (Value.pointer (some (A 3))), Value.iface 229 (Value.pointer (some (A 4))), Value.iface 229 (Value.pointer (some (A 5))), Value.iface 229 (Value.pointer (some (A 6))), Value.iface 229 (Value.pointer (some (A 7))), Value.iface 229 (Value.pointer (some (A 8)))] 70)).cell? ⟨w1.heap.size, k, none⟩ = some (.iface 229 (.pointer (some (A k)))) := by
    intro k hk
    rcases (show k = 0 ∨ k = 1 ∨ k = 2 ∨ k = 3 ∨ k = 4 ∨ k = 5 ∨ k = 6 ∨ k = 7 ∨ k = 8 by omega) with rfl | rfl | rfl | rfl | rfl | rfl | rfl | rfl | rfl <;> simp
  have H3 : Hid ((w1.alloc (Obj.cells #[Value.iface 229 (Value.pointer (some (A 0))), Value.iface 229 (Value.pointer (some (A 1))), Value.iface 229 (Value.pointer (some (A 2))), Value.iface 229 (Value.pointer (some (A 3))), Value.iface 229 (Value.pointer (some (A 4))), Value.iface 229 (Value.pointer (some (A 5))), Value.iface 229 (Value.pointer (some (A 6))), Value.iface 229 (Value.pointer (some (A 7))), Value.iface 229 (Value.pointer (some (A 8)))] 70)).heap[b]? = some (.cells #[.string s, .iface 229 (.pointer (some (A i)))] 138 (0, 0))) := by
    rw [Below.heap_alloc _ _ _ (lt_of_row h2)]; exact h2
  clear c0 c1 c2 c3 c4 c5 c6 c7 c8 hb hS1 h2
  generalize (w1.alloc (Obj.cells #[Value.iface 229 (Value.pointer (some (A 0))), Value.iface 229 (Value.pointer (some (A 1))), Value.iface 229 (Value.pointer (some (A 2))), Value.iface 229 (Value.pointer (some (A 3))), Value.iface 229 (Value.pointer (some (A 4))), Value.iface 229 (Value.pointer (some (A 5))), Value.iface 229 (Value.pointer (some (A 6))), Value.iface 229 (Value.pointer (some (A 7))), Value.iface 229 (Value.pointer (some (A 8)))] 70)) = W2 at *
  go_loop [38] (fun v => ∃ k : Nat, k ≤ i ∧ v = .int .i64 k) (fun v => 9 - (intOf v).toNat)
  case atStart => exact ⟨0, Nat.zero_le _, rfl⟩
  case round =>
    obtain ⟨k, hk, rfl⟩ := hrel
    have hck := hl k (by omega)
    have hk9 : k < 9 := by omega
    clear hl
    by_cases hki : k = i
    · subst hki
      go_wp2_with fail
      refine (is_wrap_same b s _ _ H3.out).mono ?_
      rintro e w' ⟨rfl, rfl⟩
      go_wp2_with fail
      go_ret2
      exact ⟨by go_num, hb2⟩
    · obtain ⟨ca, ta, hra⟩ := hS2.row i hi
      obtain ⟨cb, tb, hrb⟩ := hS2.row k hk9
      have hne : A i ≠ A k := fun h => hS2.other k i (by omega) hi h.symm
      go_wp2_with fail
      refine (is_wrap_other b s _ _ ca cb ta tb _ hne hra hrb H3.out).mono ?_
      rintro e w' ⟨rfl, rfl⟩
      go_wp2_with fail
      go_round
      case rel => exact ⟨k + 1, by omega, by go_num⟩
      case measure => simp [intOf]; omega
end Go.Proofs.YtonhpkigoplmaaaGreatDoor
namespace Go.Proofs.YtonhpkigoplmaaaGreatDoor
open Go.RowKit Go.Extern Ieee
attribute [local go_sem] run_store_float

/-- An error by its number and its operation's name: none, one of the nine, or one of them in an *OpError. -/
def ErrIs (A : Nat → Addr) (w : World) (v : Value) (k : Nat) (s : ByteArray) : Prop :=
  (v = .nilIface ∧ k = 0 ∧ s = ⟨#[]⟩) ∨ (∃ j, j < 9 ∧ v = .iface 229 (.pointer (some (A j))) ∧ k = j + 1 ∧ s = ⟨#[]⟩) ∨
    (∃ j, j < 9 ∧ ∃ b, w.heap[b]? = some (.cells #[.string s, .iface 229 (.pointer (some (A j)))] 138 (0, 0)) ∧ v = .iface 136 (.pointer (some ⟨b, 0, none⟩)) ∧ k = j + 1)
theorem code_any (A : Nat → Addr) (v : Value) (k : Nat) (s : ByteArray) (w : World) (hS : Sents A w) (h : ErrIs A w v k s) :
    Calls Tryz.prog 49 #[v] w fun e w' => e = .returned (.tuple #[.int .i64 (k : Int), .string s]) ∧ Below w.heap.size w w' := by
  rcases h with ⟨rfl, rfl, rfl⟩ | ⟨k, h, rfl, rfl, rfl⟩ | ⟨k, h, b, hr, rfl, rfl⟩
  ·
    refine Calls.mono (code_nil w) ?_
    rintro e w' ⟨rfl, rfl⟩
    exact ⟨rfl, Below.refl _ _⟩
  · exact code_sent A w k h hS
  · exact code_op A w b k s h hS hr

end Go.Proofs.YtonhpkigoplmaaaGreatDoor
namespace Go.Proofs.YtonhpkigoplmaaaGreatDoor
open Go.RowKit Go.Extern Ieee

def negT (x : Bool × Nat × Int) : Bool × Nat × Int := (negS x.1 x.2.1, x.2.1, x.2.2)
def sumT (x y : Bool × Nat × Int) : Bool × Nat × Int := sumN x.1 x.2.1 x.2.2 y.1 y.2.1 y.2.2
theorem means_neg {e z : Int} {x : Bool × Nat × Int} (h : MeansT e z x) : MeansT e (-z) (negT x) := by
  obtain ⟨s, n, p⟩ := x
  intro c h1 h2
  have := h c h1 h2
  simp only at this
  show sg (negS s n) (n * 2 ^ (p - c).toNat) = _
  rw [Int.neg_mul, ← this]
  unfold negS sg
  by_cases h0 : n = 0
  · subst h0; simp
  · cases s <;> simp [h0]

theorem means_sgn {e z : Int} {x : Bool × Nat × Int} (h : MeansT e z x) : sgnI x.1 x.2.1 < 0 ↔ z < 0 := by
  obtain ⟨s, n, p⟩ := x
  have := h (min e p) (by simp only; omega) (by omega)
  simp only at this
  have hp1 := Nat.two_pow_pos (p - min e p).toNat
  have hp2 := Nat.two_pow_pos (e - min e p).toNat
  have hz : z < 0 ↔ sg s (n * 2 ^ (p - min e p).toNat) < 0 := by
    rw [this]
    constructor
    · intro hz; exact Int.mul_neg_of_neg_of_pos hz (by omega)
    · intro hz
      apply Decidable.byContradiction
      intro hc
      have := Int.mul_nonneg (show 0 ≤ z by omega) (Int.natCast_nonneg (2 ^ (e - min e p).toNat))
      omega
  rw [hz]
  unfold sgnI sg
  simp only
  by_cases h0 : n = 0
  · subst h0; simp
  · have : 0 < n * 2 ^ (p - min e p).toNat := Nat.mul_pos (Nat.pos_of_ne_zero h0) hp1
    rw [if_neg h0]
    generalize n * 2 ^ (p - min e p).toNat = N at *
    cases s
    · rw [if_neg Bool.false_ne_true, if_neg Bool.false_ne_true]; omega
    · rw [if_pos rfl, if_pos rfl]; omega

theorem means_low2 (x : Bool × Nat × Int) {e : Int} (h : e ≤ x.2.2) : MeansT e (sg x.1 (x.2.1 * 2 ^ (x.2.2 - e).toNat)) x := by
  obtain ⟨s, n, p⟩ := x
  intro c h1 h2
  simp only at *
  rw [sg_mul, Nat.mul_assoc, ← Nat.pow_add]
  congr 3
  omega

theorem lessT_means {e a b : Int} {x y : Bool × Nat × Int} (hx : MeansT e a x) (hy : MeansT e b y) : lessT x y = true ↔ a < b := by
  unfold lessT lessN
  rw [decide_eq_true_eq]
  have := sumN_means hx (means_neg hy)
  have h2 := means_sgn this
  rw [show a < b ↔ a + -b < 0 by omega]
  exact h2

theorem lessT_le (x y : Bool × Nat × Int) : (lessT x y = true → leV x y) ∧ (lessT x y = false → leV y x) := by
  have hx := means_low2 x (e := min x.2.2 y.2.2) (by omega)
  have hy := means_low2 y (e := min x.2.2 y.2.2) (by omega)
  have h := lessT_means hx hy
  constructor
  · intro ht; exact leV_means hx hy (by have := h.1 ht; omega)
  · intro hf
    refine leV_means hy hx ?_
    apply Decidable.byContradiction
    intro hc
    rw [h.2 (by omega)] at hf
    cases hf

theorem lessT_self (x : Bool × Nat × Int) : lessT x x = false := by
  have hx := means_low2 x (Int.le_refl _)
  cases h : lessT x x
  · rfl
  · have := (lessT_means hx hx).1 h; omega

/-- An interval's two words. -/
structure Iv (l h : Nat) : Prop where
  lt1 : l < 18446744073709551616
  lt2 : h < 18446744073709551616
  z1 : l ≠ 9223372036854775808
  z2 : h ≠ 9223372036854775808
  p1 : plainN l = some (plT l)
  p2 : plainN h = some (plT h)
  le : posF l ≤ posF h

theorem Iv.f1 {l h : Nat} (i : Iv l h) : FR l (posF l) := FR_plain i.lt1 i.z1 (by rw [i.p1]; rfl)
theorem Iv.f2 {l h : Nat} (i : Iv l h) : FR h (posF h) := FR_plain i.lt2 i.z2 (by rw [i.p2]; rfl)
theorem Iv.q1 {l h : Nat} (i : Iv l h) : plP (posF l) = true := by rw [← i.f1.plain, i.p1]; rfl
theorem Iv.q2 {l h : Nat} (i : Iv l h) : plP (posF h) = true := by rw [← i.f2.plain, i.p2]; rfl
theorem Iv.v1 {l h : Nat} (i : Iv l h) (way : Int) : posV (plT l) way = posF l := posV_plain i.lt1 i.p1 way
theorem Iv.v2 {l h : Nat} (i : Iv l h) (way : Int) : posV (plT h) way = posF h := posV_plain i.lt2 i.p2 way

theorem plT_some {b : Nat} (h : (plainN b).isSome = true) : plainN b = some (plT b) := by
  unfold plT
  cases hb : plainN b with
  | none => rw [hb] at h; cases h
  | some x => rfl

theorem plainN_posW (b : Nat) (hb : b < 18446744073709551616) : plainN (posW b) = plainN b := by
  unfold posW
  split
  · rename_i h
    have : b = 0 ∨ b = 9223372036854775808 := by omega
    rcases this with rfl | rfl <;> rfl
  · rfl

theorem posW_nz (b : Nat) : posW b ≠ 9223372036854775808 := by
  unfold posW
  split
  · decide
  · intro hc; subst hc; rename_i h; exact h rfl

theorem made_iv (lo hi : Nat) (h1 : lo < 18446744073709551616) (h2 : hi < 18446744073709551616) : Iv (makeN lo hi).1 (makeN lo hi).2.1 := by
  have z : Iv 0 0 := ⟨by omega, by omega, by omega, by omega, rfl, rfl, Int.le_refl _⟩
  unfold makeN
  split
  · exact z
  · rename_i hp
    split
    · exact z
    · rename_i hl
      have p1 : (plainN lo).isSome = true := by cases h : (plainN lo).isSome <;> simp_all
      have p2 : (plainN hi).isSome = true := by cases h : (plainN hi).isSome <;> simp_all
      have e1 : plT (posW lo) = plT lo := by unfold plT; rw [plainN_posW _ h1]
      have e2 : plT (posW hi) = plT hi := by unfold plT; rw [plainN_posW _ h2]
      have q1 : plainN (posW lo) = some (plT lo) := by rw [plainN_posW _ h1]; exact plT_some p1
      have q2 : plainN (posW hi) = some (plT hi) := by rw [plainN_posW _ h2]; exact plT_some p2
      refine ⟨posW_lt h1, posW_lt h2, posW_nz _, posW_nz _, by rw [e1]; exact q1, by rw [e2]; exact q2, ?_⟩
      rw [← posV_plain (posW_lt h1) q1 1, ← posV_plain (posW_lt h2) q2 1]
      refine posV_mono 1 (Or.inr rfl) ((lessT_le (plT hi) (plT lo)).2 ?_)
      cases hh : lessT (plT hi) (plT lo)
      · rfl
      · exact absurd hh hl

/-- Less, by the places. -/
theorem lessT_pos {a b l h : Nat} (i : Iv l a) (j : Iv h b) : lessT (plT a) (plT b) = decide (posF a < posF b) := by
  cases hl : lessT (plT a) (plT b)
  · have := posV_mono 1 (Or.inr rfl) ((lessT_le _ _).2 hl)
    rw [i.v2, j.v2] at this
    rw [decide_eq_false (by omega)]
  · have := posV_mono 1 (Or.inr rfl) ((lessT_le _ _).1 hl)
    rw [i.v2, j.v2] at this
    rw [decide_eq_true]
    apply Decidable.byContradiction
    intro hc
    have he : posF a = posF b := by omega
    have : a = b := by
      rw [i.f2.word i.q2, j.f2.word j.q2, he]
    subst this
    rw [lessT_self] at hl
    cases hl

theorem Iv.low {l h : Nat} (i : Iv l h) : Iv l l := ⟨i.lt1, i.lt1, i.z1, i.z1, i.p1, i.p1, Int.le_refl _⟩
theorem Iv.high {l h : Nat} (i : Iv l h) : Iv h h := ⟨i.lt2, i.lt2, i.z2, i.z2, i.p2, i.p2, Int.le_refl _⟩

theorem kw_cases (d : Nat) : kw d = if 9223372036854775808 ≤ d then -((d % 9223372036854775808 : Nat) : Int) else ((d % 9223372036854775808 : Nat) : Int) := by
  unfold kw sg
  by_cases h : 9223372036854775808 ≤ d
  · rw [decide_eq_true h, if_pos rfl, if_pos h]
  · rw [decide_eq_false h, if_neg Bool.false_ne_true, if_neg h]

theorem negW_eq {b : Nat} (hb : b < 18446744073709551616) : negW b = if 9223372036854775808 ≤ b then b - 9223372036854775808 else b + 9223372036854775808 := by
  have := negW_wd (s := decide (9223372036854775808 ≤ b)) (R := b % 9223372036854775808) (by omega)
  rw [wd_self hb] at this
  rw [this]
  unfold wd
  by_cases h : 9223372036854775808 ≤ b
  · rw [decide_eq_true h, if_pos h]; simp; omega
  · rw [decide_eq_false h, if_neg h]; simp; omega

theorem plain_neg {b : Nat} {x : Bool × Nat × Int} (hb : b < 18446744073709551616) (h : plainN b = some x) : plainN (negW b) = some (negT x) := by
  have hn := negW_eq hb
  have e1 : negW b / 4503599627370496 % 2048 = b / 4503599627370496 % 2048 := by rw [hn]; split <;> omega
  have e2 : negW b % 4503599627370496 = b % 4503599627370496 := by rw [hn]; split <;> omega
  have e3 : negW b / 9223372036854775808 = 1 ↔ ¬ b / 9223372036854775808 = 1 := by rw [hn]; split <;> omega
  unfold plainN at h ⊢
  rw [e1, e2]
  split at h
  · rename_i h0
    rw [if_pos h0]
    cases h; rfl
  · rename_i h0
    rw [if_neg h0]
    split at h
    · cases h
    · rename_i h1
      rw [if_neg h1]
      cases h
      unfold negT negS
      simp only
      congr 2
      by_cases hd : b / 9223372036854775808 = 1
      · rw [decide_eq_true hd, decide_eq_false (fun hc => e3.1 hc hd)]; rfl
      · rw [decide_eq_false hd, decide_eq_true (e3.2 hd)]; simp

theorem negW_lt {b : Nat} (hb : b < 18446744073709551616) : negW b < 18446744073709551616 := by
  rw [negW_eq hb]; split <;> omega

/-- The sign, by the order. -/
theorem sgn_order {l h : Nat} (i : Iv l h) : ∃ o, FloatKind.f64.format.order l 0 = some o ∧ (o = .lt ↔ sgnI (plT l).1 (plT l).2.1 < 0) ∧ (o = .gt ↔ 0 < sgnI (plT l).1 (plT l).2.1) := by
  have ho : double.order l 0 = _ := order_kw i.f1 FR_zero
  refine ⟨_, ho, ?_⟩
  have k0 : kw 0 = 0 := rfl
  rw [k0, kw_cases]
  have hp := i.p1
  have h1 := i.lt1
  have h2 := i.z1
  generalize plT l = x at *
  unfold plainN at hp
  split at hp
  · rename_i h0
    have : l = 0 := by omega
    subst this
    cases hp
    decide
  · rename_i h0
    split at hp
    · cases hp
    · cases hp
      unfold sgnI
      simp only
      rw [if_neg (show ¬ l % 4503599627370496 + 4503599627370496 = 0 by omega)]
      by_cases hd : 9223372036854775808 ≤ l
      · rw [if_pos hd, decide_eq_true (show l / 9223372036854775808 = 1 by omega)]
        have : compare (-((l % 9223372036854775808 : Nat) : Int)) 0 = .lt := Int.compare_eq_lt.2 (by omega)
        rw [this]; simp
      · rw [if_neg hd, decide_eq_false (show ¬ l / 9223372036854775808 = 1 by omega)]
        have : compare ((l % 9223372036854775808 : Nat) : Int) 0 = .gt := Int.compare_eq_gt.2 (by omega)
        rw [this]; simp

end Go.Proofs.YtonhpkigoplmaaaGreatDoor
namespace Go.Proofs.YtonhpkigoplmaaaGreatDoor
open Go.RowKit

end Go.Proofs.YtonhpkigoplmaaaGreatDoor
namespace Go.Proofs.YtonhpkigoplmaaaGreatDoor
open Go.RowKit

/-- What Made gives. -/
def MadeG (args : Array Value) (x y : Bool × Nat × Int) : Prop := ∀ W : World, Calls Tryz.prog 60 args W fun e w' => ∃ ao la ca bo lb cb, e = .returned (.agg #[.bool x.1, .slice ao la ca, .int .i64 x.2.2, .bool y.1, .slice bo lb cb, .int .i64 y.2.2]) ∧ la = (digits x.2.1).length ∧ lb = (digits y.2.1).length ∧ NatV w' (.slice ao la ca) x.2.1 ∧ NatV w' (.slice bo lb cb) y.2.1 ∧ Below W.heap.size W w'

theorem made_gives (lo hi : Nat) (h1 : lo < 18446744073709551616) (h2 : hi < 18446744073709551616) : MadeG #[.agg #[.int .u64 (lo : Int), .int .u64 (hi : Int)]] (plT (makeN lo hi).1) (plT (makeN lo hi).2.1) := by
  intro W
  refine (refMade_any lo hi W h1 h2).mono ?_
  rintro e w' h
  obtain ⟨v, rfl, ⟨ao, la, ca, bo, lb, cb, rfl, hla, hlb, hna, hnb⟩, hb⟩ := h
  exact ⟨ao, la, ca, bo, lb, cb, rfl, hla, hlb, hna, hnb, hb⟩
theorem negated_g (x : Bool × Nat × Int) (W : World) (o : Option Addr) (l c : Nat) (hl : l = (digits x.2.1).length) (hn : NatV W (.slice o l c) x.2.1) :
    Calls Tryz.prog 61 #[.agg #[.bool x.1, .slice o l c, .int .i64 x.2.2]] W fun e w' => ∃ o' l' c', e = .returned (.agg #[.bool (negS x.1 x.2.1), .slice o' l' c', .int .i64 x.2.2]) ∧ l' = (digits x.2.1).length ∧ NatV w' (.slice o' l' c') x.2.1 ∧ Below W.heap.size W w' := by
  refine (negated_any _ x.1 x.2.1 x.2.2 W ⟨o, l, c, rfl, hl, hn⟩).mono ?_
  rintro e w' ⟨x', rfl, ⟨o', l', c', rfl, h2, h3⟩, h4⟩
  exact ⟨o', l', c', rfl, h2, h3, h4⟩
end Go.Proofs.YtonhpkigoplmaaaGreatDoor
namespace Go.Proofs.YtonhpkigoplmaaaGreatDoor
open Go.RowKit

end Go.Proofs.YtonhpkigoplmaaaGreatDoor
namespace Go.Proofs.YtonhpkigoplmaaaGreatDoor
open Go.RowKit

end Go.Proofs.YtonhpkigoplmaaaGreatDoor
namespace Go.Proofs.YtonhpkigoplmaaaGreatDoor
open Go.RowKit

end Go.Proofs.YtonhpkigoplmaaaGreatDoor
