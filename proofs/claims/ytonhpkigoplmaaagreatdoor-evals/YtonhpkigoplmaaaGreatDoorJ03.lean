/-
  NumC, NumD, NumE, FloatM.
-/
import Derived.Test.YtonhpkigoplmaaaGreatDoorJ02
import Derived.Deep.RegionHeld3
import Derived.Laws.BitsAllLaws
import Ieee.Arith
namespace Go.Proofs.YtonhpkigoplmaaaGreatDoor
open Go.RowKit

/-- Both numbers at the lower power of two. -/
def lvA (na : Nat) (ea eb : Int) : Nat := na * 2 ^ (ea - min ea eb).toNat
def lvB (nb : Nat) (ea eb : Int) : Nat := nb * 2 ^ (eb - min ea eb).toNat

/-- What sum gives. -/
def sumN (sa : Bool) (na : Nat) (ea : Int) (sb : Bool) (nb : Nat) (eb : Int) : Bool × Nat × Int :=
  if sa = sb then (sa, lvA na ea eb + lvB nb ea eb, min ea eb)
  else if lvA na ea eb = lvB nb ea eb then (false, 0, 0)
  else if lvB nb ea eb < lvA na ea eb then (sa, lvA na ea eb - lvB nb ea eb, min ea eb)
  else (sb, lvB nb ea eb - lvA na ea eb, min ea eb)

theorem len_mul_pow {n k : Nat} : (digits (n * 2 ^ k)).length ≤ (digits n).length + k / 24 + 1 := by
  apply len_of_lt
  have h1 := lt_pow_len n
  have e : (16777216 : Nat) = 2 ^ 24 := rfl
  rw [e, ← Nat.pow_mul] at h1 ⊢
  have h2 : n * 2 ^ k < 2 ^ (24 * (digits n).length) * 2 ^ k := Nat.mul_lt_mul_of_pos_right h1 (Nat.two_pow_pos _)
  rw [← Nat.pow_add] at h2
  exact Nat.lt_of_lt_of_le h2 (Nat.pow_le_pow_right (by decide) (by omega))

theorem blk_set_ne {W : World} {g g' j : Nat} {x : Obj} {u : Value} (h : W.heap[g]? = some x) (hne : g ≠ g') : (W.setCell ⟨g', j, none⟩ u).heap[g]? = some x := by
  rw [Below.heap_setCell _ _ _ _ (by exact hne)]; exact h

theorem blk_store3 {W : World} {g : Nat} {a b c a' b' c' : Value} {t : TypeId} (h : W.heap[g]? = some (.cells #[a', b', c'] t (0, 0))) :
    (((W.setCell ⟨g, 0, none⟩ a).setCell ⟨g, 1, none⟩ b).setCell ⟨g, 2, none⟩ c).heap[g]? = some (.cells #[a, b, c] t (0, 0)) := by
  have := heap_setCell_same _ g 2 _ t c (heap_setCell_same _ g 1 _ t b (heap_setCell_same W g 0 _ t a h))
  simpa using this

theorem blk_store3_ne {W : World} {g g' : Nat} {x : Obj} {a b c : Value} (h : W.heap[g]? = some x) (hne : g ≠ g') : (((W.setCell ⟨g', 0, none⟩ a).setCell ⟨g', 1, none⟩ b).setCell ⟨g', 2, none⟩ c).heap[g]? = some x :=
  blk_set_ne (blk_set_ne (blk_set_ne h hne) hne) hne

/-- Two boxes of Nums are written, a third is not. -/
theorem store_two {w0 w1 : World} {N M : Nat} {a b c a2 b2 c2 p0 p1 p2 q0 q1 q2 r0 r1 r2 : Value} (B0 : w1.heap[N]? = some (.cells #[p0, p1, p2] 92 (0, 0))) (B1 : w1.heap[N + 1]? = some (.cells #[q0, q1, q2] 92 (0, 0)))
    (B2 : w1.heap[N + 1 + 1]? = some (.cells #[r0, r1, r2] 92 (0, 0))) (hb : Below M w0 w1) (hN : M ≤ N) :
    ((((((w1.setCell ⟨N, 0, none⟩ a).setCell ⟨N, 1, none⟩ b).setCell ⟨N, 2, none⟩ c).setCell ⟨N + 1, 0, none⟩ a2).setCell ⟨N + 1, 1, none⟩ b2).setCell ⟨N + 1, 2, none⟩ c2).heap[N]? = some (.cells #[a, b, c] 92 (0, 0)) ∧ ((((((w1.setCell ⟨N, 0, none⟩ a).setCell ⟨N, 1, none⟩ b).setCell ⟨N, 2, none⟩ c).setCell ⟨N + 1, 0, none⟩ a2).setCell ⟨N + 1, 1, none⟩ b2).setCell ⟨N + 1, 2, none⟩ c2).heap[N + 1]? = some (.cells #[a2, b2, c2] 92 (0, 0)) ∧ ((((((w1.setCell ⟨N, 0, none⟩ a).setCell ⟨N, 1, none⟩ b).setCell ⟨N, 2, none⟩ c).setCell ⟨N + 1, 0, none⟩ a2).setCell ⟨N + 1, 1, none⟩ b2).setCell ⟨N + 1, 2, none⟩ c2).heap[N + 1 + 1]? = some (.cells #[r0, r1, r2] 92 (0, 0)) ∧ Below M w0 ((((((w1.setCell ⟨N, 0, none⟩ a).setCell ⟨N, 1, none⟩ b).setCell ⟨N, 2, none⟩ c).setCell ⟨N + 1, 0, none⟩ a2).setCell ⟨N + 1, 1, none⟩ b2).setCell ⟨N + 1, 2, none⟩ c2) ∧ Keeps w1 ((((((w1.setCell ⟨N, 0, none⟩ a).setCell ⟨N, 1, none⟩ b).setCell ⟨N, 2, none⟩ c).setCell ⟨N + 1, 0, none⟩ a2).setCell ⟨N + 1, 1, none⟩ b2).setCell ⟨N + 1, 2, none⟩ c2) := by
  refine ⟨blk_store3_ne (blk_store3 B0) (by omega), blk_store3 (blk_store3_ne B1 (by omega)), blk_store3_ne (blk_store3_ne B2 (by omega)) (by omega), ?_, ?_⟩
  · repeat refine Below.setCell ?_ (by first | exact hN | exact Nat.le_succ_of_le hN) _
    exact hb
  · repeat refine Keeps.set ?_ (t := 92) (by (repeat refine BoxT.set ?_); first | exact BoxT.of B0 | exact BoxT.of B1) (by decide)
    exact Keeps.refl _

theorem cell_set_ne {w : World} {g g' o o' : Nat} {u : Value} (h : g ≠ g') : (w.setCell ⟨g', o', none⟩ u).cell? ⟨g, o, none⟩ = w.cell? ⟨g, o, none⟩ :=
  World.cell?_of_block (Below.heap_setCell _ _ _ _ (by exact h))

theorem NatV.slice2 {w : World} {v : Value} {n : Nat} (h : NatV w v n) : ∃ ao len cap, v = .slice ao len cap ∧ Hid (len = (digits n).length) := by
  obtain ⟨ao, cap, rfl⟩ := h.slice
  exact ⟨_, _, _, rfl, rfl⟩

theorem NatV.heap {w w' : World} {v : Value} {n : Nat} (h : NatV w v n) (e : w'.heap = w.heap) : NatV w' v n := h.keeps (fun g cur hg => by rw [e]; exact hg)

theorem below_of_heap {w w' : World} {B : Nat} (h1 : w'.os = w.os) (h2 : w'.tape = w.tape) (h3 : w'.output = w.output) (e : w'.heap = w.heap) : Below B w w' := ⟨h1, h2, h3, by rw [e]; exact Nat.le_refl _, fun k _ => by rw [e]⟩

set_option maxHeartbeats 300000 in
set_option maxRecDepth 100000 in
theorem sum_any (xa xb : Value) (sa sb : Bool) (na nb : Nat) (ea eb : Int) (w : World) (ha : NumV w xa sa na ea) (hb : NumV w xb sb nb eb)
    (hla : (digits na).length ≤ 400000) (hlb : (digits nb).length ≤ 400000) (he1 : -400000 ≤ ea) (he2 : ea ≤ 400000) (he3 : -400000 ≤ eb) (he4 : eb ≤ 400000) :
    Calls Tryz.prog 65 #[xa, xb] w fun ev w' => ∃ x, ev = .returned x ∧ NumV w' x (sumN sa na ea sb nb eb).1 (sumN sa na ea sb nb eb).2.1 (sumN sa na ea sb nb eb).2.2 ∧ Below w.heap.size w w' := by
  obtain ⟨ao, la, ca, rfl, hl1, hNa⟩ := ha
  obtain ⟨bo, lb, cb, rfl, hl2, hNb⟩ := hb
  have HL1 : Hid (la = (digits na).length) := hl1
  have HL2 : Hid (lb = (digits nb).length) := hl2
  clear hl1 hl2
  go_enter Tryz.func65, Tryz.ntmps65
  go_wp2_with fail
  have hW : Below w.heap.size w (((w.alloc (Obj.cells #[Value.bool sa, Value.slice ao la ca, Value.int IntKind.i64 ea] 92)).alloc (Obj.cells #[Value.bool sb, Value.slice bo lb cb, Value.int IntKind.i64 eb] 92)).alloc (Obj.cells #[Value.bool false, Value.slice none 0 0, Value.int IntKind.i64 0] 92)) :=
    (((Below.refl _ _).alloc (Nat.le_refl _) _).alloc (by simp) _).alloc (by simp; omega) _
  refine (level_any _ _ sa sb na nb ea eb _ ⟨_, _, _, rfl, HL1.out, hNa.below hW (Nat.le_refl _)⟩ ⟨_, _, _, rfl, HL2.out, hNb.below hW (Nat.le_refl _)⟩ (by omega) (by omega) he1 he2 he3 he4).mono ?_
  rintro e w1 ⟨ya, yb, rfl, ⟨ao1, la1, ca1, rfl, hm1, hM1⟩, ⟨bo1, lb1, cb1, rfl, hm2, hM2⟩, hb1⟩
  have hbA : Below w.heap.size w w1 := hW.trans (hb1.mono hW.size)
  have B0 := blk_below (blk_old (blk_old (blk_new w _) _) _) hb1
  have B1 := blk_below (blk_old (blk_new (w.alloc _) _) _) hb1
  have B2 := blk_below (blk_new ((w.alloc _).alloc _) _) hb1
  simp only [World.size_alloc] at B1 B2
  obtain ⟨k00, k01, k02, k03, k04, k05⟩ := blk3 B0
  obtain ⟨k10, k11, k12, k13, k14, k15⟩ := blk3 B1
  have HS : Hid (lvA na ea eb = na * 2 ^ (ea - min ea eb).toNat ∧ lvB nb ea eb = nb * 2 ^ (eb - min ea eb).toNat) := ⟨rfl, rfl⟩
  have q1 : (digits (lvA na ea eb)).length ≤ 1000000 := Nat.le_trans len_mul_pow (by omega)
  have q2 : (digits (lvB nb ea eb)).length ≤ 1000000 := Nat.le_trans len_mul_pow (by omega)
  rw [← HS.out.1] at hm1 hM1
  rw [← HS.out.2] at hm2 hM2
  generalize hSN : sumN sa na ea sb nb eb = r
  have HSN : Hid (sumN sa na ea sb nb eb = r) := hSN
  clear hSN
  generalize hm : min ea eb = m at *
  have Hm : Hid (min ea eb = m) := hm
  clear hm
  have HM1 : Hid (la1 = (digits (lvA na ea eb)).length) := hm1
  have HM2 : Hid (lb1 = (digits (lvB nb ea eb)).length) := hm2
  clear hm1 hm2 hb1 hW hNa hNb
  have HB0 : Hid (w1.heap[w.heap.size]? = _) := B0
  have HB1 : Hid (w1.heap[w.heap.size + 1]? = _) := B1
  have HB2 : Hid (w1.heap[w.heap.size + 1 + 1]? = _) := B2
  clear B0 B1 B2
  by_cases hs : sa = sb
  · subst hs
    go_wp2_with fail
    obtain ⟨D0, D1, D2, hbB, hK⟩ := store_two (a := .bool sa) (b := .slice ao1 la1 ca1) (c := .int .i64 m) (a2 := .bool sa) (b2 := .slice bo1 lb1 cb1) (c2 := .int .i64 m) HB0.out HB1.out HB2.out hbA (Nat.le_refl _)
    have hA2 := hM1.keeps hK
    have hB2 := hM2.keeps hK
    clear hM1 hM2 hK hbA HB0 HB1 HB2 k00 k01 k02 k03 k04 k05 k10 k11 k12 k13 k14 k15
    generalize ((((((w1.setCell { block := w.heap.size, off := 0 } (Value.bool sa)).setCell { block := w.heap.size, off := 1 } (Value.slice ao1 la1 ca1)).setCell { block := w.heap.size, off := 2 } (Value.int IntKind.i64 m)).setCell { block := w.heap.size + 1, off := 0 } (Value.bool sa)).setCell { block := w.heap.size + 1, off := 1 } (Value.slice bo1 lb1 cb1)).setCell { block := w.heap.size + 1, off := 2 } (Value.int IntKind.i64 m)) = W2 at *
    have HD0 : Hid (W2.heap[w.heap.size]? = _) := D0
    have HD1 : Hid (W2.heap[w.heap.size + 1]? = _) := D1
    have HD2 : Hid (W2.heap[w.heap.size + 1 + 1]? = _) := D2
    have HA2 : Hid (NatV W2 _ _) := hA2
    have HB2 : Hid (NatV W2 _ _) := hB2
    have Q1 : Hid ((digits (lvA na ea eb)).length ≤ 1000000) := q1
    have Q2 : Hid ((digits (lvB nb ea eb)).length ≤ 1000000) := q2
    have fin : Hid (∀ (w3 : World) (ao3 : Option Addr) (la3 ca3 : Nat), la3 = (digits (lvA na ea eb + lvB nb ea eb)).length → NatV w3 (.slice ao3 la3 ca3) (lvA na ea eb + lvB nb ea eb) → Below W2.drew.heap.size W2.drew w3 → ∃ x, Ending.returned (.agg #[.bool sa, .slice ao3 la3 ca3, .int .i64 m]) = .returned x ∧ NumV (((w3.setCell ⟨w.heap.size + 1 + 1, 0, none⟩ (Value.bool sa)).setCell ⟨w.heap.size + 1 + 1, 1, none⟩ (Value.slice ao3 la3 ca3)).setCell ⟨w.heap.size + 1 + 1, 2, none⟩ (Value.int IntKind.i64 m)) x r.1 r.2.1 r.2.2 ∧ Below w.heap.size w (((w3.setCell ⟨w.heap.size + 1 + 1, 0, none⟩ (Value.bool sa)).setCell ⟨w.heap.size + 1 + 1, 1, none⟩ (Value.slice ao3 la3 ca3)).setCell ⟨w.heap.size + 1 + 1, 2, none⟩ (Value.int IntKind.i64 m))) := by
      intro w3 ao3 la3 ca3 hl hn hb3
      have hbx : BoxT w3 (w.heap.size + 1 + 1) 92 := BoxT.of (blk_below (show (W2.drew).heap[w.heap.size + 1 + 1]? = _ from HD2.out) hb3)
      have hr : r = (sa, lvA na ea eb + lvB nb ea eb, m) := by rw [← HSN.out, ← Hm.out]; unfold sumN; simp
      have hk : Keeps w3 (((w3.setCell ⟨w.heap.size + 1 + 1, 0, none⟩ (Value.bool sa)).setCell ⟨w.heap.size + 1 + 1, 1, none⟩ (Value.slice ao3 la3 ca3)).setCell ⟨w.heap.size + 1 + 1, 2, none⟩ (Value.int IntKind.i64 m)) := by
        repeat refine Keeps.set ?_ (t := 92) (by (repeat refine BoxT.set ?_); exact hbx) (by decide)
        exact Keeps.refl _
      refine ⟨_, rfl, ?_, ?_⟩
      · rw [hr]; exact ⟨_, _, _, rfl, hl, hn.keeps hk⟩
      · repeat refine Below.setCell ?_ (by simp; try omega) _
        exact hbB.trans ((Below.refl _ W2).drew.trans (hb3.mono (by have := hbB.size; show _ ≤ W2.heap.size; omega)) |>.mono (Nat.le_refl _))
    clear D0 D1 D2 hA2 hB2 q1 q2 hbB hla hlb he1 he2 he3 he4
    obtain ⟨k00, k01, k02, -, -, -⟩ := blk3 HD0.out
    obtain ⟨k10, k11, -, -, -, -⟩ := blk3 HD1.out
    clear k10
    go_region_held3 (fun W => W.cell? ⟨w.heap.size, 0, none⟩ = some (.bool sa) ∧ W.cell? ⟨w.heap.size, 1, none⟩ = some (.slice ao1 la1 ca1) ∧ W.cell? ⟨w.heap.size + 1, 1, none⟩ = some (.slice bo1 lb1 cb1) ∧ W.cell? ⟨w.heap.size, 2, none⟩ = some (.int .i64 m)) (first | (go_keep; done) | (refine ⟨?_, ?_, ?_, ?_⟩ <;> first | (go_keep; done) | (rw [cell_set_ne (by omega), cell_set_ne (by omega), cell_set_ne (by omega)]; assumption)))
      (first | (go_at_call 117; refine (plus_any (lvA na ea eb) (lvB nb ea eb) _ _ _ ?_ ?_ Q1.out Q2.out).mono ?_; exact HA2.out.heap rfl; exact HB2.out.heap rfl; rintro e w3 ⟨v3, rfl, hN3, hb3⟩; obtain ⟨ao3, la3, ca3, rfl, HL3⟩ := hN3.slice2; have HN3 : Hid (NatV w3 _ _) := hN3; have HB3 : Hid (Below _ _ w3) := hb3; obtain ⟨j00, j01, j02, j03, j04, j05⟩ := blk3 (blk_below (show (W2.drew).heap[w.heap.size]? = _ from HD0.out) hb3); obtain ⟨j10, j11, j12, j13, j14, j15⟩ := blk3 (blk_below (show (W2.drew).heap[w.heap.size + 1]? = _ from HD1.out) hb3); obtain ⟨j20, j21, j22, j23, j24, j25⟩ := blk3 (blk_below (show (W2.drew).heap[w.heap.size + 1 + 1]? = _ from HD2.out) hb3); clear hN3 hb3 k01 k02 k00 k11 j03 j04 j05 j12 j13 j14 j15))
    go_wp2
    refine bodyPost_ret (v := .agg #[.bool sa, .slice ao3 la3 ca3, .int .i64 m]) (by simp [results, Tryz.results65, go_sem, j20, j21, j22]) rfl ?_
    rw [HSN.out]; exact fin.out w3 ao3 la3 ca3 HL3.out HN3.out HB3.out
  · obtain rfl : sb = (!sa) := by cases sa <;> cases sb <;> simp at hs ⊢
    clear hs
    have hbb : (sa == !sa) = false := by cases sa <;> rfl
    go_wp2_with fail
    clear hbb
    obtain ⟨D0, D1, D2, hbB, hK⟩ := store_two (a := .bool sa) (b := .slice ao1 la1 ca1) (c := .int .i64 m) (a2 := .bool (!sa)) (b2 := .slice bo1 lb1 cb1) (c2 := .int .i64 m) HB0.out HB1.out HB2.out hbA (Nat.le_refl _)
    have hA2 := hM1.keeps hK
    have hB2 := hM2.keeps hK
    clear hM1 hM2 hK hbA HB0 HB1 HB2 k00 k01 k02 k03 k04 k05 k10 k11 k12 k13 k14 k15
    generalize ((((((w1.setCell { block := w.heap.size, off := 0 } (Value.bool sa)).setCell { block := w.heap.size, off := 1 } (Value.slice ao1 la1 ca1)).setCell { block := w.heap.size, off := 2 } (Value.int IntKind.i64 m)).setCell { block := w.heap.size + 1, off := 0 } (Value.bool (!sa))).setCell { block := w.heap.size + 1, off := 1 } (Value.slice bo1 lb1 cb1)).setCell { block := w.heap.size + 1, off := 2 } (Value.int IntKind.i64 m)) = W2 at *
    refine (cmp_any (lvA na ea eb) (lvB nb ea eb) _ _ _ hA2 hB2 q1 q2).mono ?_
    rintro e w4 ⟨rfl, hb4⟩
    have hA2 := hA2.below hb4 (Nat.le_refl _)
    have hB2 := hB2.below hb4 (Nat.le_refl _)
    have D0 := blk_below D0 hb4
    have D1 := blk_below D1 hb4
    have D2 := blk_below D2 hb4
    have hbB := hbB.trans (hb4.mono hbB.size)
    clear hb4
    obtain ⟨W2, rfl⟩ : ∃ W2 : World, W2 = w4 := ⟨_, rfl⟩
    rcases Nat.lt_trichotomy (lvA na ea eb) (lvB nb ea eb) with hgt | hgt | hgt
    · have hgt : Hid (lvA na ea eb < lvB nb ea eb) := hgt
      rw [show cmpI (lvA na ea eb) (lvB nb ea eb) = -1 by unfold cmpI; rw [if_pos hgt.out]]
      go_wp2_with fail
      have HD0 : Hid (W2.heap[w.heap.size]? = _) := D0
      have HD1 : Hid (W2.heap[w.heap.size + 1]? = _) := D1
      have HD2 : Hid (W2.heap[w.heap.size + 1 + 1]? = _) := D2
      have HA2 : Hid (NatV W2 _ _) := hA2
      have HB2 : Hid (NatV W2 _ _) := hB2
      have Q1 : Hid ((digits (lvA na ea eb)).length ≤ 1000000) := q1
      have Q2 : Hid ((digits (lvB nb ea eb)).length ≤ 1000000) := q2
      have fin : Hid (∀ (w3 : World) (ao3 : Option Addr) (la3 ca3 : Nat), la3 = (digits (lvB nb ea eb - lvA na ea eb)).length → NatV w3 (.slice ao3 la3 ca3) (lvB nb ea eb - lvA na ea eb) → Below W2.drew.heap.size W2.drew w3 → ∃ x, Ending.returned (.agg #[.bool (!sa), .slice ao3 la3 ca3, .int .i64 m]) = .returned x ∧ NumV (((w3.setCell ⟨w.heap.size + 1 + 1, 0, none⟩ (Value.bool (!sa))).setCell ⟨w.heap.size + 1 + 1, 1, none⟩ (Value.slice ao3 la3 ca3)).setCell ⟨w.heap.size + 1 + 1, 2, none⟩ (Value.int IntKind.i64 m)) x r.1 r.2.1 r.2.2 ∧ Below w.heap.size w (((w3.setCell ⟨w.heap.size + 1 + 1, 0, none⟩ (Value.bool (!sa))).setCell ⟨w.heap.size + 1 + 1, 1, none⟩ (Value.slice ao3 la3 ca3)).setCell ⟨w.heap.size + 1 + 1, 2, none⟩ (Value.int IntKind.i64 m))) := by
        intro w3 ao3 la3 ca3 hl hn hb3
        have hbx : BoxT w3 (w.heap.size + 1 + 1) 92 := BoxT.of (blk_below (show (W2.drew).heap[w.heap.size + 1 + 1]? = _ from HD2.out) hb3)
        have hr : r = ((!sa), lvB nb ea eb - lvA na ea eb, m) := by rw [← HSN.out, ← Hm.out]; unfold sumN; rw [if_neg (by simp), if_neg (by have := hgt.out; omega), if_neg (by have := hgt.out; omega)]
        have hk : Keeps w3 (((w3.setCell ⟨w.heap.size + 1 + 1, 0, none⟩ (Value.bool (!sa))).setCell ⟨w.heap.size + 1 + 1, 1, none⟩ (Value.slice ao3 la3 ca3)).setCell ⟨w.heap.size + 1 + 1, 2, none⟩ (Value.int IntKind.i64 m)) := by
          repeat refine Keeps.set ?_ (t := 92) (by (repeat refine BoxT.set ?_); exact hbx) (by decide)
          exact Keeps.refl _
        refine ⟨_, rfl, ?_, ?_⟩
        · rw [hr]; exact ⟨_, _, _, rfl, hl, hn.keeps hk⟩
        · repeat refine Below.setCell ?_ (by simp; try omega) _
          exact hbB.trans ((Below.refl _ W2).drew.trans (hb3.mono (by have := hbB.size; show _ ≤ W2.heap.size; omega)) |>.mono (Nat.le_refl _))
      clear D0 D1 D2 hA2 hB2 q1 q2 hbB hla hlb he1 he2 he3 he4
      obtain ⟨k00, k01, k02, -, -, -⟩ := blk3 HD0.out
      obtain ⟨k10, k11, -, -, -, -⟩ := blk3 HD1.out
      clear k00
      go_region_held3 (fun W => W.cell? ⟨w.heap.size + 1, 0, none⟩ = some (.bool (!sa)) ∧ W.cell? ⟨w.heap.size, 1, none⟩ = some (.slice ao1 la1 ca1) ∧ W.cell? ⟨w.heap.size + 1, 1, none⟩ = some (.slice bo1 lb1 cb1) ∧ W.cell? ⟨w.heap.size, 2, none⟩ = some (.int .i64 m)) (first | (go_keep; done) | (refine ⟨?_, ?_, ?_, ?_⟩ <;> first | (go_keep; done) | (rw [cell_set_ne (by omega), cell_set_ne (by omega), cell_set_ne (by omega)]; assumption)))
        (first | (go_at_call 119; refine (minus_any (lvB nb ea eb) (lvA na ea eb) _ _ _ ?_ ?_ (by have := hgt.out; omega) Q2.out).mono ?_; exact HB2.out.heap rfl; exact HA2.out.heap rfl; rintro e w3 ⟨v3, rfl, hN3, hb3⟩; obtain ⟨ao3, la3, ca3, rfl, HL3⟩ := hN3.slice2; have HN3 : Hid (NatV w3 _ _) := hN3; have HB3 : Hid (Below _ _ w3) := hb3; obtain ⟨j00, j01, j02, j03, j04, j05⟩ := blk3 (blk_below (show (W2.drew).heap[w.heap.size]? = _ from HD0.out) hb3); obtain ⟨j10, j11, j12, j13, j14, j15⟩ := blk3 (blk_below (show (W2.drew).heap[w.heap.size + 1]? = _ from HD1.out) hb3); obtain ⟨j20, j21, j22, j23, j24, j25⟩ := blk3 (blk_below (show (W2.drew).heap[w.heap.size + 1 + 1]? = _ from HD2.out) hb3); clear hN3 hb3 k01 k02 k10 k11 j03 j04 j05 j12 j13 j14 j15))
      go_wp2
      refine bodyPost_ret (v := .agg #[.bool (!sa), .slice ao3 la3 ca3, .int .i64 m]) (by simp [results, Tryz.results65, go_sem, j20, j21, j22]) rfl ?_
      rw [HSN.out]; exact fin.out w3 ao3 la3 ca3 HL3.out HN3.out HB3.out
    · rw [show cmpI (lvA na ea eb) (lvB nb ea eb) = 0 by unfold cmpI; rw [if_neg (by omega), if_pos hgt]]
      have hgt : Hid (lvA na ea eb = lvB nb ea eb) := hgt
      have hr : r = (false, 0, 0) := by rw [← HSN.out]; unfold sumN; rw [if_neg (by simp), if_pos hgt.out]
      obtain ⟨k20, k21, k22, k23, k24, k25⟩ := blk3 D2
      have fin : Hid (∀ W : World, Below w.heap.size w W → ∃ x, Ending.returned (.agg #[.bool false, .slice none 0 0, .int .i64 0]) = .returned x ∧ NumV W x r.1 r.2.1 r.2.2 ∧ Below w.heap.size w W) := by
        intro W hW
        refine ⟨_, rfl, ?_, hW⟩
        rw [hr]; exact ⟨_, _, _, rfl, rfl, NatV.zero W⟩
      clear hr D0 D1 D2 hA2 hB2 q1 q2 hla hlb he1 he2 he3 he4
      go_wp2
      refine bodyPost_ret (v := .agg #[.bool false, .slice none 0 0, .int .i64 0]) (by simp [results, Tryz.results65, go_sem, k20, k21, k22]) rfl ?_
      rw [HSN.out]; refine fin.out _ ?_
      repeat refine Below.setCell ?_ (by simp; try omega) _
      exact hbB
    · rw [show cmpI (lvA na ea eb) (lvB nb ea eb) = 1 by unfold cmpI; rw [if_neg (by omega), if_neg (by omega)]]
      have hgt : Hid (lvB nb ea eb < lvA na ea eb) := hgt
      go_wp2_with fail
      have HD0 : Hid (W2.heap[w.heap.size]? = _) := D0
      have HD1 : Hid (W2.heap[w.heap.size + 1]? = _) := D1
      have HD2 : Hid (W2.heap[w.heap.size + 1 + 1]? = _) := D2
      have HA2 : Hid (NatV W2 _ _) := hA2
      have HB2 : Hid (NatV W2 _ _) := hB2
      have Q1 : Hid ((digits (lvA na ea eb)).length ≤ 1000000) := q1
      have Q2 : Hid ((digits (lvB nb ea eb)).length ≤ 1000000) := q2
      have fin : Hid (∀ (w3 : World) (ao3 : Option Addr) (la3 ca3 : Nat), la3 = (digits (lvA na ea eb - lvB nb ea eb)).length → NatV w3 (.slice ao3 la3 ca3) (lvA na ea eb - lvB nb ea eb) → Below W2.drew.heap.size W2.drew w3 → ∃ x, Ending.returned (.agg #[.bool sa, .slice ao3 la3 ca3, .int .i64 m]) = .returned x ∧ NumV (((w3.setCell ⟨w.heap.size + 1 + 1, 0, none⟩ (Value.bool sa)).setCell ⟨w.heap.size + 1 + 1, 1, none⟩ (Value.slice ao3 la3 ca3)).setCell ⟨w.heap.size + 1 + 1, 2, none⟩ (Value.int IntKind.i64 m)) x r.1 r.2.1 r.2.2 ∧ Below w.heap.size w (((w3.setCell ⟨w.heap.size + 1 + 1, 0, none⟩ (Value.bool sa)).setCell ⟨w.heap.size + 1 + 1, 1, none⟩ (Value.slice ao3 la3 ca3)).setCell ⟨w.heap.size + 1 + 1, 2, none⟩ (Value.int IntKind.i64 m))) := by
        intro w3 ao3 la3 ca3 hl hn hb3
        have hbx : BoxT w3 (w.heap.size + 1 + 1) 92 := BoxT.of (blk_below (show (W2.drew).heap[w.heap.size + 1 + 1]? = _ from HD2.out) hb3)
        have hr : r = (sa, lvA na ea eb - lvB nb ea eb, m) := by rw [← HSN.out, ← Hm.out]; unfold sumN; rw [if_neg (by simp), if_neg (by have := hgt.out; omega), if_pos hgt.out]
        have hk : Keeps w3 (((w3.setCell ⟨w.heap.size + 1 + 1, 0, none⟩ (Value.bool sa)).setCell ⟨w.heap.size + 1 + 1, 1, none⟩ (Value.slice ao3 la3 ca3)).setCell ⟨w.heap.size + 1 + 1, 2, none⟩ (Value.int IntKind.i64 m)) := by
          repeat refine Keeps.set ?_ (t := 92) (by (repeat refine BoxT.set ?_); exact hbx) (by decide)
          exact Keeps.refl _
        refine ⟨_, rfl, ?_, ?_⟩
        · rw [hr]; exact ⟨_, _, _, rfl, hl, hn.keeps hk⟩
        · repeat refine Below.setCell ?_ (by simp; try omega) _
          exact hbB.trans ((Below.refl _ W2).drew.trans (hb3.mono (by have := hbB.size; show _ ≤ W2.heap.size; omega)) |>.mono (Nat.le_refl _))
      clear D0 D1 D2 hA2 hB2 q1 q2 hbB hla hlb he1 he2 he3 he4
      obtain ⟨k00, k01, k02, -, -, -⟩ := blk3 HD0.out
      obtain ⟨k10, k11, -, -, -, -⟩ := blk3 HD1.out
      clear k10
      go_region_held3 (fun W => W.cell? ⟨w.heap.size, 0, none⟩ = some (.bool sa) ∧ W.cell? ⟨w.heap.size, 1, none⟩ = some (.slice ao1 la1 ca1) ∧ W.cell? ⟨w.heap.size + 1, 1, none⟩ = some (.slice bo1 lb1 cb1) ∧ W.cell? ⟨w.heap.size, 2, none⟩ = some (.int .i64 m)) (first | (go_keep; done) | (refine ⟨?_, ?_, ?_, ?_⟩ <;> first | (go_keep; done) | (rw [cell_set_ne (by omega), cell_set_ne (by omega), cell_set_ne (by omega)]; assumption)))
        (first | (go_at_call 119; refine (minus_any (lvA na ea eb) (lvB nb ea eb) _ _ _ ?_ ?_ (by have := hgt.out; omega) Q1.out).mono ?_; exact HA2.out.heap rfl; exact HB2.out.heap rfl; rintro e w3 ⟨v3, rfl, hN3, hb3⟩; obtain ⟨ao3, la3, ca3, rfl, HL3⟩ := hN3.slice2; have HN3 : Hid (NatV w3 _ _) := hN3; have HB3 : Hid (Below _ _ w3) := hb3; obtain ⟨j00, j01, j02, j03, j04, j05⟩ := blk3 (blk_below (show (W2.drew).heap[w.heap.size]? = _ from HD0.out) hb3); obtain ⟨j10, j11, j12, j13, j14, j15⟩ := blk3 (blk_below (show (W2.drew).heap[w.heap.size + 1]? = _ from HD1.out) hb3); obtain ⟨j20, j21, j22, j23, j24, j25⟩ := blk3 (blk_below (show (W2.drew).heap[w.heap.size + 1 + 1]? = _ from HD2.out) hb3); clear hN3 hb3 k01 k02 k00 k11 j03 j04 j05 j12 j13 j14 j15))
      go_wp2
      refine bodyPost_ret (v := .agg #[.bool sa, .slice ao3 la3 ca3, .int .i64 m]) (by simp [results, Tryz.results65, go_sem, j20, j21, j22]) rfl ?_
      rw [HSN.out]; exact fin.out w3 ao3 la3 ca3 HL3.out HN3.out HB3.out
end Go.Proofs.YtonhpkigoplmaaaGreatDoor
namespace Go.Proofs.YtonhpkigoplmaaaGreatDoor
open Go.RowKit

theorem ltc {w : World} {p : Addr} {v : Value} (h : w.cell? p = some v) : p.block < w.heap.size := World.block_lt_of_cell? w p h

/-- What less tells. -/
def lessN (sa : Bool) (na : Nat) (ea : Int) (sb : Bool) (nb : Nat) (eb : Int) : Bool :=
  decide (sgnI (sumN sa na ea (negS sb nb) nb eb).1 (sumN sa na ea (negS sb nb) nb eb).2.1 < 0)

set_option maxHeartbeats 1000000 in
set_option maxRecDepth 100000 in
theorem less_any (xa xb : Value) (sa sb : Bool) (na nb : Nat) (ea eb : Int) (w : World) (ha : NumV w xa sa na ea) (hb : NumV w xb sb nb eb)
    (hla : (digits na).length ≤ 400000) (hlb : (digits nb).length ≤ 400000) (he1 : -400000 ≤ ea) (he2 : ea ≤ 400000) (he3 : -400000 ≤ eb) (he4 : eb ≤ 400000) :
    Calls Tryz.prog 58 #[xa, xb] w fun ev w' => ev = .returned (.bool (lessN sa na ea sb nb eb)) ∧ Below w.heap.size w w' := by
  obtain ⟨ao, la, ca, rfl, hl1, hNa⟩ := ha
  obtain ⟨bo, lb, cb, rfl, hl2, hNb⟩ := hb
  have HL1 : Hid (la = (digits na).length) := hl1
  have HL2 : Hid (lb = (digits nb).length) := hl2
  clear hl1 hl2
  go_enter Tryz.func58, Tryz.ntmps58
  go_wp2_with fail
  have hW : Below w.heap.size w ((w.alloc (Obj.cells #[Value.bool sa, Value.slice ao la ca, Value.int IntKind.i64 ea] 92)).alloc (Obj.cells #[Value.bool sb, Value.slice bo lb cb, Value.int IntKind.i64 eb] 92)) :=
    ((Below.refl _ _).alloc (Nat.le_refl _) _).alloc (by simp) _
  refine (negated_any _ sb nb eb _ ⟨_, _, _, rfl, HL2.out, hNb.below hW (Nat.le_refl _)⟩).mono ?_
  rintro e w1 ⟨x1, rfl, ⟨ao1, la1, ca1, rfl, hm1, hM1⟩, hb1⟩
  have B0 := blk_below (blk_old (blk_new w _) _) hb1
  have hNa1 := (hNa.below hW (Nat.le_refl _)).below hb1 (Nat.le_refl _)
  have hbA : Below w.heap.size w w1 := hW.trans (hb1.mono hW.size)
  have HM1 : Hid (la1 = (digits nb).length) := hm1
  clear hNa hNb hW hb1 hm1
  obtain ⟨k00, k01, k02, -, -, -⟩ := blk3 B0
  clear B0
  have hz : w.heap.size < w1.heap.size := ltc k00
  go_wp2_with fail
  have hW2 : Below w1.heap.size w1 (w1.alloc (Obj.cells #[Value.bool (negS sb nb), Value.slice ao1 la1 ca1, Value.int IntKind.i64 eb] 92)) := (Below.refl _ _).alloc (Nat.le_refl _) _
  refine (sum_any _ _ sa (negS sb nb) na nb ea eb _ ⟨_, _, _, rfl, HL1.out, hNa1.below hW2 (Nat.le_refl _)⟩ ⟨_, _, _, rfl, HM1.out, hM1.below hW2 (Nat.le_refl _)⟩ hla hlb he1 he2 he3 he4).mono ?_
  rintro e w2 ⟨x2, rfl, ⟨ao2, la2, ca2, rfl, hm2, hM2⟩, hb2⟩
  have hbB : Below w.heap.size w w2 := (hbA.alloc hbA.size _).trans (hb2.mono (by simp; omega))
  have hlt : Hid (lessN sa na ea sb nb eb = decide (sgnI (sumN sa na ea (negS sb nb) nb eb).1 (sumN sa na ea (negS sb nb) nb eb).2.1 < 0)) := rfl
  have HM2 : Hid (la2 = _) := hm2
  clear hNa1 hM1 hbA hW2 hb2 k00 k01 k02 hz hm2
  generalize sumN sa na ea (negS sb nb) nb eb = r at *
  obtain ⟨rs, rn, re⟩ := r
  simp only at hM2 ⊢
  go_wp2_with fail
  refine (sign_any _ rs rn re _ ⟨_, _, _, rfl, HM2.out, hM2.below ((Below.refl _ _).alloc (Nat.le_refl _) _) (Nat.le_refl _)⟩).mono ?_
  rintro e w3 ⟨rfl, hb3⟩
  have hbC : Below w.heap.size w w3 := (hbB.alloc hbB.size _).trans (hb3.mono (by have := hbB.size; simp; omega))
  clear hM2 hbB hb3
  have hlt2 : Hid (lessN sa na ea sb nb eb = decide (sgnI rs rn < 0)) := hlt.out
  clear hlt
  go_wp2
  go_ret
  rw [hlt2.out]
  exact ⟨rfl, hbC⟩
end Go.Proofs.YtonhpkigoplmaaaGreatDoor
namespace Go.Proofs.YtonhpkigoplmaaaGreatDoor
open Go.RowKit

/-- A float's number by its bits; none: it is not plain. -/
def plainN (b : Nat) : Option (Bool × Nat × Int) :=
  if b / 4503599627370496 % 2048 = 0 ∧ b % 4503599627370496 = 0 then some (false, 0, 0)
  else if b / 4503599627370496 % 2048 < 123 ∨ 1923 < b / 4503599627370496 % 2048 ∨ (b / 4503599627370496 % 2048 = 1923 ∧ 0 < b % 4503599627370496) then none
  else some (decide (b / 9223372036854775808 = 1), b % 4503599627370496 + 4503599627370496, ((b / 4503599627370496 % 2048 : Nat) : Int) - 1075)

theorem bits_expo (b : Nat) (hb : b < 18446744073709551616) : bits .and .u64 ((b : Int) / 4503599627370496) 2047 = ((b / 4503599627370496 % 2048 : Nat) : Int) := by
  have h := u64_and_nat (b / 4503599627370496) 2047 (by omega) (by decide)
  have e1 : ((b / 4503599627370496 : Nat) : Int) = (b : Int) / 4503599627370496 := by omega
  have e2 : ((2047 : Nat) : Int) = 2047 := rfl
  rw [e1, e2] at h
  rw [h]
  have : b / 4503599627370496 &&& 2047 = b / 4503599627370496 % 2048 := Nat.and_two_pow_sub_one_eq_mod _ 11
  rw [this]

theorem bits_frac (b : Nat) (hb : b < 18446744073709551616) : bits .and .u64 (b : Int) 4503599627370495 = ((b % 4503599627370496 : Nat) : Int) := by
  have h := u64_and_nat b 4503599627370495 hb (by decide)
  have e2 : ((4503599627370495 : Nat) : Int) = 4503599627370495 := rfl
  rw [e2] at h
  rw [h]
  have : b &&& 4503599627370495 = b % 4503599627370496 := Nat.and_two_pow_sub_one_eq_mod _ 52
  rw [this]

theorem sgn_bool (b : Nat) : ((b : Int) / 9223372036854775808 == 1) = decide (b / 9223372036854775808 = 1) := by
  rw [Bool.eq_iff_iff]; simp only [beq_iff_eq, decide_eq_true_eq]; omega

/-- What Plain hands back, as values. -/
def PlainR (b : Nat) (w : World) (ev : Ending) (w' : World) : Prop :=
  ∃ x, ev = .returned (.tuple #[x, .bool (plainN b).isSome]) ∧ NumV w' x ((plainN b).getD (false, 0, 0)).1 ((plainN b).getD (false, 0, 0)).2.1 ((plainN b).getD (false, 0, 0)).2.2 ∧ Below w.heap.size w w'

theorem plainR_zero {b : Nat} {w W : World} {ok : Bool} (h : plainN b = some (false, 0, 0) ∧ ok = true ∨ plainN b = none ∧ ok = false) (hW : Below w.heap.size w W) : PlainR b w (.returned (.tuple #[.agg #[.bool false, .slice none 0 0, .int .i64 0], .bool ok])) W := by
  rcases h with ⟨h, rfl⟩ | ⟨h, rfl⟩
  · exact ⟨_, by rw [h]; rfl, by rw [h]; exact ⟨_, _, _, rfl, rfl, NatV.zero W⟩, hW⟩
  · exact ⟨_, by rw [h]; rfl, by rw [h]; exact ⟨_, _, _, rfl, rfl, NatV.zero W⟩, hW⟩

set_option maxHeartbeats 400000 in
set_option maxRecDepth 100000 in
theorem plain_any (b : Nat) (w : World) (hb : b < 18446744073709551616) :
    Calls Tryz.prog 57 #[.int .u64 (b : Int)] w fun ev w' => PlainR b w ev w' := by
  have h1 := bits_expo b hb
  have h2 := bits_frac b hb
  have hn : Hid (plainN b = if b / 4503599627370496 % 2048 = 0 ∧ b % 4503599627370496 = 0 then some (false, 0, 0) else if b / 4503599627370496 % 2048 < 123 ∨ 1923 < b / 4503599627370496 % 2048 ∨ (b / 4503599627370496 % 2048 = 1923 ∧ 0 < b % 4503599627370496) then none else some (decide (b / 9223372036854775808 = 1), b % 4503599627370496 + 4503599627370496, ((b / 4503599627370496 % 2048 : Nat) : Int) - 1075)) := rfl
  have he : b / 4503599627370496 % 2048 < 2048 := by omega
  have hf : b % 4503599627370496 < 4503599627370496 := by omega
  have HB : Hid (b < 18446744073709551616) := hb
  clear hb
  generalize b / 4503599627370496 % 2048 = e at *
  generalize b % 4503599627370496 = f at *
  by_cases he0 : e = 0
  · subst he0
    by_cases hf0 : f = 0
    · subst hf0
      have r : Hid (plainN b = some (false, 0, 0)) := by show _ = _; rw [hn.out]; simp
      clear hn
      go_enter Tryz.func57, Tryz.ntmps57
      go_wp2
      refine bodyPost_ret (v := .tuple #[.agg #[.bool false, .slice none 0 0, .int .i64 0], .bool true]) (by simp [results, Tryz.results57, go_sem]) rfl ?_
      exact plainR_zero (Or.inl ⟨r.out, rfl⟩) ((Below.refl _ _).alloc (Nat.le_refl _) _)
    · have r : Hid (plainN b = none) := by show _ = _; rw [hn.out, if_neg (by omega), if_pos (by omega)]
      have t1 : ((f : Int) == 0) = false := by simp; omega
      clear hn
      go_enter Tryz.func57, Tryz.ntmps57
      go_wp2
      refine bodyPost_ret (v := .tuple #[.agg #[.bool false, .slice none 0 0, .int .i64 0], .bool false]) (by simp [results, Tryz.results57, go_sem]) rfl ?_
      exact plainR_zero (Or.inr ⟨r.out, rfl⟩) ((Below.refl _ _).alloc (Nat.le_refl _) _)
  · have t0 : ((e : Int) == 0) = false := by simp; omega
    rcases (show e < 123 ∨ 1923 < e ∨ (e = 1923 ∧ 0 < f) ∨ (e = 1923 ∧ f = 0) ∨ (123 ≤ e ∧ e < 1923) by omega) with g | g | ⟨g, g'⟩ | ⟨g, g'⟩ | ⟨g, g'⟩
    · have r : Hid (plainN b = none) := by show _ = _; rw [hn.out, if_neg (by omega), if_pos (by omega)]
      clear hn
      go_enter Tryz.func57, Tryz.ntmps57
      go_wp2
      refine bodyPost_ret (v := .tuple #[.agg #[.bool false, .slice none 0 0, .int .i64 0], .bool false]) (by simp [results, Tryz.results57, go_sem]) rfl ?_
      exact plainR_zero (Or.inr ⟨r.out, rfl⟩) ((Below.refl _ _).alloc (Nat.le_refl _) _)
    · have r : Hid (plainN b = none) := by show _ = _; rw [hn.out, if_neg (by omega), if_pos (by omega)]
      clear hn
      go_enter Tryz.func57, Tryz.ntmps57
      go_wp2
      refine bodyPost_ret (v := .tuple #[.agg #[.bool false, .slice none 0 0, .int .i64 0], .bool false]) (by simp [results, Tryz.results57, go_sem]) rfl ?_
      exact plainR_zero (Or.inr ⟨r.out, rfl⟩) ((Below.refl _ _).alloc (Nat.le_refl _) _)
    · have r : Hid (plainN b = none) := by show _ = _; rw [hn.out, if_neg (by omega), if_pos (by omega)]
      subst g
      clear hn
      go_enter Tryz.func57, Tryz.ntmps57
      go_wp2
      refine bodyPost_ret (v := .tuple #[.agg #[.bool false, .slice none 0 0, .int .i64 0], .bool false]) (by simp [results, Tryz.results57, go_sem]) rfl ?_
      exact plainR_zero (Or.inr ⟨r.out, rfl⟩) ((Below.refl _ _).alloc (Nat.le_refl _) _)
    · have r : Hid (plainN b = some (decide (b / 9223372036854775808 = 1), f + 4503599627370496, (e : Int) - 1075)) := by show _ = _; rw [hn.out, if_neg (by omega), if_neg (by omega)]
      subst g
      subst g'
      clear hn
      go_enter Tryz.func57, Tryz.ntmps57
      go_wp2_with fail
      skip
      refine (nat_any (4503599627370496) _ (by omega)).mono ?_
      rintro ev w1 ⟨v1, rfl, hN1, hb1⟩
      obtain ⟨ao1, la1, ca1, rfl, HL1⟩ := hN1.slice2
      have B0 := blk_below (blk_new w _) hb1
      have hbA : Below w.heap.size w w1 := ((Below.refl _ _).alloc (Nat.le_refl _) _).trans (hb1.mono (by simp))
      obtain ⟨k00, k01, k02, k03, k04, k05⟩ := blk3 B0
      have HBX : Hid (BoxT w1 w.heap.size 92) := BoxT.of B0
      have HN1 : Hid (NatV w1 _ _) := hN1
      clear B0 hb1 hN1
      go_wp2
      refine bodyPost_ret (v := .tuple #[.agg #[.bool ((b : Int) / 9223372036854775808 == 1), .slice ao1 la1 ca1, .int .i64 (848)], .bool true]) (by simp [results, Tryz.results57, go_sem, k00, k01, k02]) rfl ?_
      refine ⟨_, by rw [r.out]; rfl, ?_, ?_⟩
      · rw [r.out, sgn_bool]
        refine ⟨_, _, _, rfl, HL1.out, HN1.out.keeps ?_⟩
        repeat refine Keeps.set ?_ (t := 92) (by (repeat refine BoxT.set ?_); exact HBX.out) (by decide)
        exact Keeps.refl _
      · repeat refine Below.setCell ?_ (by simp) _
        exact hbA
    · have r : Hid (plainN b = some (decide (b / 9223372036854775808 = 1), f + 4503599627370496, (e : Int) - 1075)) := by show _ = _; rw [hn.out, if_neg (by omega), if_neg (by omega)]
      have t3 : ((e : Int) == 1923) = false := by simp; omega
      clear hn
      go_enter Tryz.func57, Tryz.ntmps57
      go_wp2_with fail
      rw [show (f : Int) + 4503599627370496 = ((f + 4503599627370496 : Nat) : Int) by omega]
      refine (nat_any (f + 4503599627370496) _ (by omega)).mono ?_
      rintro ev w1 ⟨v1, rfl, hN1, hb1⟩
      obtain ⟨ao1, la1, ca1, rfl, HL1⟩ := hN1.slice2
      have B0 := blk_below (blk_new w _) hb1
      have hbA : Below w.heap.size w w1 := ((Below.refl _ _).alloc (Nat.le_refl _) _).trans (hb1.mono (by simp))
      obtain ⟨k00, k01, k02, k03, k04, k05⟩ := blk3 B0
      have HBX : Hid (BoxT w1 w.heap.size 92) := BoxT.of B0
      have HN1 : Hid (NatV w1 _ _) := hN1
      clear B0 hb1 hN1
      go_wp2
      refine bodyPost_ret (v := .tuple #[.agg #[.bool ((b : Int) / 9223372036854775808 == 1), .slice ao1 la1 ca1, .int .i64 ((e : Int) - 1075)], .bool true]) (by simp [results, Tryz.results57, go_sem, k00, k01, k02]) rfl ?_
      refine ⟨_, by rw [r.out]; rfl, ?_, ?_⟩
      · rw [r.out, sgn_bool]
        refine ⟨_, _, _, rfl, HL1.out, HN1.out.keeps ?_⟩
        repeat refine Keeps.set ?_ (t := 92) (by (repeat refine BoxT.set ?_); exact HBX.out) (by decide)
        exact Keeps.refl _
      · repeat refine Below.setCell ?_ (by simp) _
        exact hbA
end Go.Proofs.YtonhpkigoplmaaaGreatDoor
namespace Go.Proofs.YtonhpkigoplmaaaGreatDoor
open Ieee

/-- A number with its sign. -/
def sg (s : Bool) (n : Nat) : Int := if s then -(n : Int) else (n : Int)

theorem signed_eq (s : Bool) (m k : Nat) : signed s m k = sg s (m * 2 ^ k) := by
  unfold signed sg; rw [Nat.shiftLeft_eq]

theorem sgnI_sumN (sa sb : Bool) (na nb : Nat) (ea eb : Int) :
    sgnI (sumN sa na ea sb nb eb).1 (sumN sa na ea sb nb eb).2.1 < 0 ↔ sg sa (lvA na ea eb) + sg sb (lvB nb ea eb) < 0 := by
  unfold sumN sgnI sg
  generalize lvA na ea eb = A
  generalize lvB nb ea eb = B
  cases sa <;> cases sb <;> simp <;> (repeat' split) <;> simp_all <;> omega

theorem sg_negS (s : Bool) (n k : Nat) : sg (negS s n) (n * k) = - sg s (n * k) := by
  unfold sg negS
  by_cases h : n = 0
  · subst h; simp
  · cases s <;> simp [h]

/-- Is one number below another? Both at one power of two. -/
theorem lessN_eq (sa sb : Bool) (na nb : Nat) (ea eb : Int) :
    lessN sa na ea sb nb eb = decide (sg sa (lvA na ea eb) < sg sb (lvB nb ea eb)) := by
  unfold lessN
  rw [decide_eq_decide, sgnI_sumN]
  have : sg (negS sb nb) (lvB nb ea eb) = - sg sb (lvB nb ea eb) := sg_negS _ _ _
  rw [this]; omega

theorem sg_zero (s : Bool) : sg s 0 = 0 := by cases s <;> rfl
theorem sg_pos_iff (s : Bool) (n k : Nat) (hk : 0 < k) : (0 < sg s (n * k) ↔ 0 < sg s n) ∧ (sg s (n * k) < 0 ↔ sg s n < 0) := by
  unfold sg
  have : n * k = 0 ↔ n = 0 := by
    constructor
    · intro h; rcases Nat.mul_eq_zero.1 h with h | h <;> omega
    · rintro rfl; simp
  cases s <;> constructor <;> constructor <;> intro h <;> simp at * <;> omega

/-- A plain float's word, taken apart. -/
theorem plain_read {b : Nat} {s : Bool} {n : Nat} {e : Int} (hb : b < 18446744073709551616) (h : plainN b = some (s, n, e)) :
    (n = 0 ∧ e = 0 ∧ b % 9223372036854775808 = 0 ∧ ∃ s', double.read b = .number s' 0 (-1074)) ∨ (0 < n ∧ double.read b = .number s n e) := by
  unfold plainN at h
  have hsw : double.signWeight = 9223372036854775808 := rfl
  have hbn : double.binade = 4503599627370496 := rfl
  have hir : double.infRung = 9218868437227405312 := rfl
  have hlp : double.leastPlace = -1074 := rfl
  split at h
  · rename_i h0
    left
    simp only [Option.some.injEq, Prod.mk.injEq] at h
    obtain ⟨-, rfl, rfl⟩ := h
    have hz : b % 9223372036854775808 = 0 := by omega
    refine ⟨rfl, rfl, hz, (b / 9223372036854775808 % 2 == 1), ?_⟩
    unfold Format.read
    simp only [hsw, hbn, hir, hlp, hz]
    rw [if_pos (by omega)]
  · rename_i h0
    split at h
    · cases h
    · rename_i h1
      right
      simp only [Option.some.injEq, Prod.mk.injEq] at h
      obtain ⟨rfl, rfl, rfl⟩ := h
      refine ⟨by omega, ?_⟩
      unfold Format.read
      simp only [hsw, hbn, hir, hlp]
      rw [if_neg (by omega), if_pos (by omega)]
      congr 1
      · rw [Bool.eq_iff_iff]; simp only [beq_iff_eq, decide_eq_true_eq]; omega
      · omega
      · omega

theorem min_self_sub (i : Int) : (i - min i i).toNat = 0 := by omega

/-- How two plain floats stand. -/
theorem plain_order {a b : Nat} {sa sb : Bool} {na nb : Nat} {ea eb : Int} (ha : a < 18446744073709551616) (hb : b < 18446744073709551616) (pa : plainN a = some (sa, na, ea)) (pb : plainN b = some (sb, nb, eb)) :
    (double.order a b == some Ordering.gt) = lessN sb nb eb sa na ea := by
  rw [lessN_eq]
  have key : ∀ x y : Int, (some (compare x y) == some Ordering.gt) = decide (y < x) := by
    intro x y
    rw [Bool.eq_iff_iff]
    simp [compare, compareOfLessAndEq]
    constructor
    · intro h; split at h <;> (try split at h) <;> simp at h ⊢ <;> omega
    · intro h; rw [if_neg (by omega), if_neg (by omega)]
  unfold Format.order
  rcases plain_read ha pa with ⟨rfl, rfl, -, s1, r1⟩ | ⟨hna, r1⟩ <;> rcases plain_read hb pb with ⟨rfl, rfl, -, s2, r2⟩ | ⟨hnb, r2⟩
  · rw [r1, r2]
    simp only [Datum.order, key, signed_eq, Nat.zero_mul, sg_zero, lvA, lvB]
  · rw [r1, r2]
    simp only [Datum.order, key, signed_eq, Nat.zero_mul, sg_zero, lvA, lvB]
    rw [decide_eq_decide, (sg_pos_iff sb nb _ (Nat.two_pow_pos _)).2, (sg_pos_iff sb nb _ (Nat.two_pow_pos _)).2]
  · rw [r1, r2]
    simp only [Datum.order, key, signed_eq, Nat.zero_mul, sg_zero, lvA, lvB]
    rw [decide_eq_decide, (sg_pos_iff sa na _ (Nat.two_pow_pos _)).1, (sg_pos_iff sa na _ (Nat.two_pow_pos _)).1]
  · rw [r1, r2]
    simp only [Datum.order, key, signed_eq]
    have e1 : lvA nb eb ea = nb * 2 ^ (eb - min ea eb).toNat := by unfold lvA; rw [Int.min_comm]
    have e2 : lvB na eb ea = na * 2 ^ (ea - min ea eb).toNat := by unfold lvB; rw [Int.min_comm]
    rw [e1, e2]

/-! which floats are plain, by comparisons -/
theorem read_sub {r : Nat} (h : r < 4503599627370496) : double.read r = .number false r (-1074) := by
  have hsw : double.signWeight = 9223372036854775808 := rfl
  have hbn : double.binade = 4503599627370496 := rfl
  have hlp : double.leastPlace = -1074 := rfl
  unfold Format.read
  simp only [hsw, hbn, hlp]
  rw [Nat.mod_eq_of_lt (by omega), if_pos h, show r / 9223372036854775808 = 0 by omega]
  rfl

theorem read_norm {r : Nat} (h : 4503599627370496 ≤ r) (h2 : r < 9218868437227405312) : double.read r = .number false (4503599627370496 + r % 4503599627370496) (((r / 4503599627370496 : Nat) : Int) - 1075) := by
  have hsw : double.signWeight = 9223372036854775808 := rfl
  have hbn : double.binade = 4503599627370496 := rfl
  have hir : double.infRung = 9218868437227405312 := rfl
  have hlp : double.leastPlace = -1074 := rfl
  unfold Format.read
  simp only [hsw, hbn, hir, hlp]
  rw [Nat.mod_eq_of_lt (show r < 9223372036854775808 by omega), if_neg (by omega), if_pos h2, show r / 9223372036854775808 = 0 by omega]
  congr 1
  omega

theorem read_inf : double.read 9218868437227405312 = .infinity false := rfl

theorem read_nan {r : Nat} (h : 9218868437227405312 < r) (h2 : r < 9223372036854775808) : ∃ t, double.read r = .nan false t := by
  have hsw : double.signWeight = 9223372036854775808 := rfl
  have hbn : double.binade = 4503599627370496 := rfl
  have hir : double.infRung = 9218868437227405312 := rfl
  unfold Format.read
  simp only [hsw, hbn, hir]
  rw [Nat.mod_eq_of_lt h2, if_neg (by omega), if_neg (by omega), if_neg (by omega), show r / 9223372036854775808 = 0 by omega]
  exact ⟨_, rfl⟩

theorem signed_false (m k : Nat) : signed false m k = ((m * 2 ^ k : Nat) : Int) := by rw [signed_eq]; rfl

theorem cmp_lt' {x y : Int} (h : x < y) : compare x y = .lt := by simp [compare, compareOfLessAndEq, h]
theorem cmp_eq' {x y : Int} (h : x = y) : compare x y = .eq := by subst h; simp [compare, compareOfLessAndEq]
theorem cmp_gt' {x y : Int} (h : y < x) : compare x y = .gt := by
  simp only [compare, compareOfLessAndEq]; rw [if_neg (by omega), if_neg (by omega)]

/-- A float that is not below 0 against a power of two. -/
theorem order_pow {r K : Nat} (hr : r < 9218868437227405312) (hK1 : 1 ≤ K) (hK2 : K ≤ 2046) :
    double.order r (K * 4503599627370496) = some (if r < K * 4503599627370496 then .lt else if r = K * 4503599627370496 then .eq else .gt) := by
  have hk : double.read (K * 4503599627370496) = .number false 4503599627370496 ((K : Int) - 1075) := by
    rw [read_norm (by omega) (by omega)]
    have e1 : K * 4503599627370496 % 4503599627370496 = 0 := by omega
    have e2 : K * 4503599627370496 / 4503599627370496 = K := by omega
    rw [e1, e2]
  unfold Format.order
  rw [hk]
  by_cases hs : r < 4503599627370496
  · rw [read_sub hs, if_pos (by omega)]
    simp only [Datum.order, signed_false, Option.some.injEq]
    apply cmp_lt'
    have hb : min (-1074 : Int) ((K : Int) - 1075) = -1074 := by omega
    rw [hb]
    have h1 : 1 ≤ 2 ^ ((K : Int) - 1075 - -1074).toNat := Nat.one_le_two_pow
    have h2 : 4503599627370496 * 1 ≤ 4503599627370496 * 2 ^ ((K : Int) - 1075 - -1074).toNat := Nat.mul_le_mul_left _ h1
    have h0 : ((-1074 : Int) - -1074).toNat = 0 := rfl
    rw [h0, Nat.pow_zero, Nat.mul_one]
    generalize 4503599627370496 * 2 ^ ((K : Int) - 1075 - -1074).toNat = Y at *
    omega
  · rw [read_norm (by omega) hr]
    simp only [Datum.order, signed_false, Option.some.injEq]
    have hf : r % 4503599627370496 < 4503599627370496 := by omega
    have hre : r = r / 4503599627370496 * 4503599627370496 + r % 4503599627370496 := by omega
    generalize r / 4503599627370496 = e at *
    generalize r % 4503599627370496 = f at *
    rcases Nat.lt_trichotomy e K with h | h | h
    · rw [if_pos (by omega)]
      apply cmp_lt'
      have hb : min ((e : Int) - 1075) ((K : Int) - 1075) = (e : Int) - 1075 := by omega
      rw [hb]
      have h0 : ((e : Int) - 1075 - ((e : Int) - 1075)).toNat = 0 := by omega
      have h3 : ((K : Int) - 1075 - ((e : Int) - 1075)).toNat = (K - e - 1) + 1 := by omega
      rw [h0, h3, Nat.pow_zero, Nat.mul_one, Nat.pow_succ]
      have h1 : 1 ≤ 2 ^ (K - e - 1) := Nat.one_le_two_pow
      generalize 2 ^ (K - e - 1) = Y at *
      omega
    · subst h
      have h0 : ∀ x : Int, (x - min x x).toNat = 0 := fun x => by omega
      rw [h0, Nat.pow_zero, Nat.mul_one, Nat.mul_one, if_neg (by omega)]
      split
      · exact cmp_eq' (by omega)
      · exact cmp_gt' (by omega)
    · rw [if_neg (by omega), if_neg (by omega)]
      apply cmp_gt'
      have hb : min ((e : Int) - 1075) ((K : Int) - 1075) = (K : Int) - 1075 := by omega
      rw [hb]
      have h0 : ((K : Int) - 1075 - ((K : Int) - 1075)).toNat = 0 := by omega
      have h3 : ((e : Int) - 1075 - ((K : Int) - 1075)).toNat = (e - K - 1) + 1 := by omega
      rw [h0, h3, Nat.pow_zero, Nat.mul_one, Nat.pow_succ]
      have h1 : 1 ≤ 2 ^ (e - K - 1) := Nat.one_le_two_pow
      have h2 : (4503599627370496 + f) * 2 ≤ (4503599627370496 + f) * (2 ^ (e - K - 1) * 2) := Nat.mul_le_mul_left _ (by omega)
      generalize (4503599627370496 + f) * (2 ^ (e - K - 1) * 2) = Y at *
      omega

theorem order_zero {r : Nat} (hr : r < 9223372036854775808) : (double.order r 0 == some Ordering.eq) = decide (r = 0) := by
  have h0 : double.read 0 = .number false 0 (-1074) := rfl
  unfold Format.order
  rw [h0]
  rcases (show r < 4503599627370496 ∨ (4503599627370496 ≤ r ∧ r < 9218868437227405312) ∨ r = 9218868437227405312 ∨ 9218868437227405312 < r by omega) with h | ⟨h, h2⟩ | h | h
  · rw [read_sub h]
    simp only [Datum.order, signed_false, Nat.zero_mul]
    have : ((-1074 : Int) - min (-1074) (-1074)).toNat = 0 := rfl
    rw [this, Nat.pow_zero, Nat.mul_one]
    by_cases hz : r = 0
    · subst hz; rfl
    · rw [cmp_gt' (by omega)]; simp [hz]
  · rw [read_norm h h2]
    simp only [Datum.order, signed_false, Nat.zero_mul]
    have h1 : 0 < (4503599627370496 + r % 4503599627370496) * 2 ^ (((r / 4503599627370496 : Nat) : Int) - 1075 - min (((r / 4503599627370496 : Nat) : Int) - 1075) (-1074)).toNat := Nat.mul_pos (by omega) (Nat.two_pow_pos _)
    rw [cmp_gt' (Int.ofNat_lt.2 h1)]
    have : r ≠ 0 := by omega
    simp [this]
  · subst h; rw [read_inf]; rfl
  · obtain ⟨t, ht⟩ := read_nan h hr
    rw [ht]
    have : r ≠ 0 := by omega
    simp [Datum.order, this]

/-- What isPlain asks, of a float without its sign. -/
def isPlainB (r : Nat) : Bool :=
  (double.order r 0 == some Ordering.eq) || ((double.order r 553942754166571008 == some Ordering.gt || double.order r 553942754166571008 == some Ordering.eq) && (double.order r 8660422083433463808 == some Ordering.lt || double.order r 8660422083433463808 == some Ordering.eq))

theorem isPlainB_eq {b : Nat} (_hb : b < 18446744073709551616) : isPlainB (b % 9223372036854775808) = (plainN b).isSome := by
  have hr : b % 9223372036854775808 < 9223372036854775808 := by omega
  have e1 : b / 4503599627370496 % 2048 = b % 9223372036854775808 / 4503599627370496 := by omega
  have e2 : b % 4503599627370496 = b % 9223372036854775808 % 4503599627370496 := by omega
  unfold isPlainB plainN
  rw [order_zero hr, e1, e2]
  generalize b % 9223372036854775808 = r at *
  rcases (show r < 9218868437227405312 ∨ r = 9218868437227405312 ∨ 9218868437227405312 < r by omega) with h | h | h
  · have o1 := order_pow (K := 123) h (by omega) (by omega)
    have o2 := order_pow (K := 1923) h (by omega) (by omega)
    have c1 : 123 * 4503599627370496 = 553942754166571008 := by decide
    have c2 : 1923 * 4503599627370496 = 8660422083433463808 := by decide
    rw [c1] at o1
    rw [c2] at o2
    rw [o1, o2]
    by_cases hz : r = 0
    · subst hz; rfl
    · rw [if_neg (show ¬(r / 4503599627370496 = 0 ∧ r % 4503599627370496 = 0) by omega)]
      by_cases hp : 553942754166571008 ≤ r ∧ r ≤ 8660422083433463808
      · rw [if_neg (show ¬(r / 4503599627370496 < 123 ∨ 1923 < r / 4503599627370496 ∨ (r / 4503599627370496 = 1923 ∧ 0 < r % 4503599627370496)) by omega)]
        rw [if_neg (by omega)]
        have h1 : r < 8660422083433463808 ∨ r = 8660422083433463808 := by omega
        rcases h1 with h1 | h1
        · rw [if_pos h1]
          by_cases h2 : r = 553942754166571008
          · rw [if_pos h2]; simp
          · rw [if_neg h2]; simp
        · rw [if_neg (by omega), if_pos h1, if_neg (by omega)]; simp
      · rw [if_pos (show (r / 4503599627370496 < 123 ∨ 1923 < r / 4503599627370496 ∨ (r / 4503599627370496 = 1923 ∧ 0 < r % 4503599627370496)) by omega)]
        by_cases h1 : r < 553942754166571008
        · rw [if_pos h1]; simp [hz]
        · rw [if_neg (show ¬ r < 8660422083433463808 by omega), if_neg (show ¬ r = 8660422083433463808 by omega)]; simp [hz]
  · subst h; rfl
  · obtain ⟨t, ht⟩ := read_nan h hr
    rw [if_neg (by omega), if_pos (by omega)]
    have hz : r ≠ 0 := by omega
    unfold Format.order
    rw [ht]
    simp [Datum.order, hz]
end Go.Proofs.YtonhpkigoplmaaaGreatDoor
