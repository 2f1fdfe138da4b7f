/-
  encloseref.sum.
-/
import Derived.Test.YtonhpkigoplmaaaGreatDoorNumB
import Derived.Deep.RegionHeld3
namespace Go.Proofs.YtonhpkigoplmaaaGreatDoor
open Go.RowKit

/-- Both numbers at the lower power of two. -/
def lvA (na : Nat) (ea eb : Int) : Nat := na * 2 ^ (ea - min ea eb).toNat
def lvB (nb : Nat) (ea eb : Int) : Nat := nb * 2 ^ (eb - min ea eb).toNat

/-- What sum gives. -/
def sumN (sa : Bool) (na : Nat) (ea : Int) (sb : Bool) (nb : Nat) (eb : Int) : Bool × Nat × Int :=
  if sa = sb then (sa, lvA na ea eb + lvB nb ea eb, min ea eb)
  else if lvA na ea eb = lvB nb ea eb then (false, 0, 0)
  else if lvB nb ea eb < lvA na ea eb then (sa, lvA na ea eb - lvB nb ea eb, min ea eb)
  else (sb, lvB nb ea eb - lvA na ea eb, min ea eb)

theorem len_mul_pow {n k : Nat} : (digits (n * 2 ^ k)).length ≤ (digits n).length + k / 24 + 1 := by
  apply len_of_lt
  have h1 := lt_pow_len n
  have e : (16777216 : Nat) = 2 ^ 24 := rfl
  rw [e, ← Nat.pow_mul] at h1 ⊢
  have h2 : n * 2 ^ k < 2 ^ (24 * (digits n).length) * 2 ^ k := Nat.mul_lt_mul_of_pos_right h1 (Nat.two_pow_pos _)
  rw [← Nat.pow_add] at h2
  exact Nat.lt_of_lt_of_le h2 (Nat.pow_le_pow_right (by decide) (by omega))

theorem blk_set_ne {W : World} {g g' j : Nat} {x : Obj} {u : Value} (h : W.heap[g]? = some x) (hne : g ≠ g') : (W.setCell ⟨g', j, none⟩ u).heap[g]? = some x := by
  rw [Below.heap_setCell _ _ _ _ (by exact hne)]; exact h

theorem blk_store3 {W : World} {g : Nat} {a b c a' b' c' : Value} {t : TypeId} (h : W.heap[g]? = some (.cells #[a', b', c'] t (0, 0))) :
    (((W.setCell ⟨g, 0, none⟩ a).setCell ⟨g, 1, none⟩ b).setCell ⟨g, 2, none⟩ c).heap[g]? = some (.cells #[a, b, c] t (0, 0)) := by
  have := heap_setCell_same _ g 2 _ t c (heap_setCell_same _ g 1 _ t b (heap_setCell_same W g 0 _ t a h))
  simpa using this

theorem blk_store3_ne {W : World} {g g' : Nat} {x : Obj} {a b c : Value} (h : W.heap[g]? = some x) (hne : g ≠ g') : (((W.setCell ⟨g', 0, none⟩ a).setCell ⟨g', 1, none⟩ b).setCell ⟨g', 2, none⟩ c).heap[g]? = some x :=
  blk_set_ne (blk_set_ne (blk_set_ne h hne) hne) hne

/-- Two boxes of Nums are written, a third is not. -/
theorem store_two {w0 w1 : World} {N M : Nat} {a b c a2 b2 c2 p0 p1 p2 q0 q1 q2 r0 r1 r2 : Value} (B0 : w1.heap[N]? = some (.cells #[p0, p1, p2] 92 (0, 0))) (B1 : w1.heap[N + 1]? = some (.cells #[q0, q1, q2] 92 (0, 0)))
    (B2 : w1.heap[N + 1 + 1]? = some (.cells #[r0, r1, r2] 92 (0, 0))) (hb : Below M w0 w1) (hN : M ≤ N) :
    ((((((w1.setCell ⟨N, 0, none⟩ a).setCell ⟨N, 1, none⟩ b).setCell ⟨N, 2, none⟩ c).setCell ⟨N + 1, 0, none⟩ a2).setCell ⟨N + 1, 1, none⟩ b2).setCell ⟨N + 1, 2, none⟩ c2).heap[N]? = some (.cells #[a, b, c] 92 (0, 0)) ∧ ((((((w1.setCell ⟨N, 0, none⟩ a).setCell ⟨N, 1, none⟩ b).setCell ⟨N, 2, none⟩ c).setCell ⟨N + 1, 0, none⟩ a2).setCell ⟨N + 1, 1, none⟩ b2).setCell ⟨N + 1, 2, none⟩ c2).heap[N + 1]? = some (.cells #[a2, b2, c2] 92 (0, 0)) ∧ ((((((w1.setCell ⟨N, 0, none⟩ a).setCell ⟨N, 1, none⟩ b).setCell ⟨N, 2, none⟩ c).setCell ⟨N + 1, 0, none⟩ a2).setCell ⟨N + 1, 1, none⟩ b2).setCell ⟨N + 1, 2, none⟩ c2).heap[N + 1 + 1]? = some (.cells #[r0, r1, r2] 92 (0, 0)) ∧ Below M w0 ((((((w1.setCell ⟨N, 0, none⟩ a).setCell ⟨N, 1, none⟩ b).setCell ⟨N, 2, none⟩ c).setCell ⟨N + 1, 0, none⟩ a2).setCell ⟨N + 1, 1, none⟩ b2).setCell ⟨N + 1, 2, none⟩ c2) ∧ Keeps w1 ((((((w1.setCell ⟨N, 0, none⟩ a).setCell ⟨N, 1, none⟩ b).setCell ⟨N, 2, none⟩ c).setCell ⟨N + 1, 0, none⟩ a2).setCell ⟨N + 1, 1, none⟩ b2).setCell ⟨N + 1, 2, none⟩ c2) := by
  refine ⟨blk_store3_ne (blk_store3 B0) (by omega), blk_store3 (blk_store3_ne B1 (by omega)), blk_store3_ne (blk_store3_ne B2 (by omega)) (by omega), ?_, ?_⟩
  · repeat refine Below.setCell ?_ (by first | exact hN | exact Nat.le_succ_of_le hN) _
    exact hb
  · repeat refine Keeps.set ?_ (t := 92) (by (repeat refine BoxT.set ?_); first | exact BoxT.of B0 | exact BoxT.of B1) (by decide)
    exact Keeps.refl _

theorem cell_set_ne {w : World} {g g' o o' : Nat} {u : Value} (h : g ≠ g') : (w.setCell ⟨g', o', none⟩ u).cell? ⟨g, o, none⟩ = w.cell? ⟨g, o, none⟩ :=
  World.cell?_of_block (Below.heap_setCell _ _ _ _ (by exact h))

theorem NatV.slice2 {w : World} {v : Value} {n : Nat} (h : NatV w v n) : ∃ ao len cap, v = .slice ao len cap ∧ Hid (len = (digits n).length) := by
  obtain ⟨ao, cap, rfl⟩ := h.slice
  exact ⟨_, _, _, rfl, rfl⟩

theorem NatV.heap {w w' : World} {v : Value} {n : Nat} (h : NatV w v n) (e : w'.heap = w.heap) : NatV w' v n := h.keeps (fun g cur hg => by rw [e]; exact hg)

theorem below_of_heap {w w' : World} {B : Nat} (h1 : w'.os = w.os) (h2 : w'.tape = w.tape) (h3 : w'.output = w.output) (e : w'.heap = w.heap) : Below B w w' := ⟨h1, h2, h3, by rw [e]; exact Nat.le_refl _, fun k _ => by rw [e]⟩

set_option maxHeartbeats 300000 in
set_option maxRecDepth 100000 in
theorem sum_any (xa xb : Value) (sa sb : Bool) (na nb : Nat) (ea eb : Int) (w : World) (ha : NumV w xa sa na ea) (hb : NumV w xb sb nb eb)
    (hla : (digits na).length ≤ 400000) (hlb : (digits nb).length ≤ 400000) (he1 : -400000 ≤ ea) (he2 : ea ≤ 400000) (he3 : -400000 ≤ eb) (he4 : eb ≤ 400000) :
    Calls Tryz.prog 65 #[xa, xb] w fun ev w' => ∃ x, ev = .returned x ∧ NumV w' x (sumN sa na ea sb nb eb).1 (sumN sa na ea sb nb eb).2.1 (sumN sa na ea sb nb eb).2.2 ∧ Below w.heap.size w w' := by
  obtain ⟨ao, la, ca, rfl, hl1, hNa⟩ := ha
  obtain ⟨bo, lb, cb, rfl, hl2, hNb⟩ := hb
  have HL1 : Hid (la = (digits na).length) := hl1
  have HL2 : Hid (lb = (digits nb).length) := hl2
  clear hl1 hl2
  go_enter Tryz.func65, Tryz.ntmps65
  go_wp2_with fail
  have hW : Below w.heap.size w (((w.alloc (Obj.cells #[Value.bool sa, Value.slice ao la ca, Value.int IntKind.i64 ea] 92)).alloc (Obj.cells #[Value.bool sb, Value.slice bo lb cb, Value.int IntKind.i64 eb] 92)).alloc (Obj.cells #[Value.bool false, Value.slice none 0 0, Value.int IntKind.i64 0] 92)) :=
    (((Below.refl _ _).alloc (Nat.le_refl _) _).alloc (by simp) _).alloc (by simp; omega) _
  refine (level_any _ _ sa sb na nb ea eb _ ⟨_, _, _, rfl, HL1.out, hNa.below hW (Nat.le_refl _)⟩ ⟨_, _, _, rfl, HL2.out, hNb.below hW (Nat.le_refl _)⟩ (by omega) (by omega) he1 he2 he3 he4).mono ?_
  rintro e w1 ⟨ya, yb, rfl, ⟨ao1, la1, ca1, rfl, hm1, hM1⟩, ⟨bo1, lb1, cb1, rfl, hm2, hM2⟩, hb1⟩
  have hbA : Below w.heap.size w w1 := hW.trans (hb1.mono hW.size)
  have B0 := blk_below (blk_old (blk_old (blk_new w _) _) _) hb1
  have B1 := blk_below (blk_old (blk_new (w.alloc _) _) _) hb1
  have B2 := blk_below (blk_new ((w.alloc _).alloc _) _) hb1
  simp only [World.size_alloc] at B1 B2
  obtain ⟨k00, k01, k02, k03, k04, k05⟩ := blk3 B0
  obtain ⟨k10, k11, k12, k13, k14, k15⟩ := blk3 B1
  have HS : Hid (lvA na ea eb = na * 2 ^ (ea - min ea eb).toNat ∧ lvB nb ea eb = nb * 2 ^ (eb - min ea eb).toNat) := ⟨rfl, rfl⟩
  have q1 : (digits (lvA na ea eb)).length ≤ 1000000 := Nat.le_trans len_mul_pow (by omega)
  have q2 : (digits (lvB nb ea eb)).length ≤ 1000000 := Nat.le_trans len_mul_pow (by omega)
  rw [← HS.out.1] at hm1 hM1
  rw [← HS.out.2] at hm2 hM2
  generalize hSN : sumN sa na ea sb nb eb = r
  have HSN : Hid (sumN sa na ea sb nb eb = r) := hSN
  clear hSN
  generalize hm : min ea eb = m at *
  have Hm : Hid (min ea eb = m) := hm
  clear hm
  have HM1 : Hid (la1 = (digits (lvA na ea eb)).length) := hm1
  have HM2 : Hid (lb1 = (digits (lvB nb ea eb)).length) := hm2
  clear hm1 hm2 hb1 hW hNa hNb
  have HB0 : Hid (w1.heap[w.heap.size]? = _) := B0
  have HB1 : Hid (w1.heap[w.heap.size + 1]? = _) := B1
  have HB2 : Hid (w1.heap[w.heap.size + 1 + 1]? = _) := B2
  clear B0 B1 B2
  by_cases hs : sa = sb
  · subst hs
    go_wp2_with fail
    obtain ⟨D0, D1, D2, hbB, hK⟩ := store_two (a := .bool sa) (b := .slice ao1 la1 ca1) (c := .int .i64 m) (a2 := .bool sa) (b2 := .slice bo1 lb1 cb1) (c2 := .int .i64 m) HB0.out HB1.out HB2.out hbA (Nat.le_refl _)
    have hA2 := hM1.keeps hK
    have hB2 := hM2.keeps hK
    clear hM1 hM2 hK hbA HB0 HB1 HB2 k00 k01 k02 k03 k04 k05 k10 k11 k12 k13 k14 k15
    generalize ((((((w1.setCell { block := w.heap.size, off := 0 } (Value.bool sa)).setCell { block := w.heap.size, off := 1 } (Value.slice ao1 la1 ca1)).setCell { block := w.heap.size, off := 2 } (Value.int IntKind.i64 m)).setCell { block := w.heap.size + 1, off := 0 } (Value.bool sa)).setCell { block := w.heap.size + 1, off := 1 } (Value.slice bo1 lb1 cb1)).setCell { block := w.heap.size + 1, off := 2 } (Value.int IntKind.i64 m)) = W2 at *
    have HD0 : Hid (W2.heap[w.heap.size]? = _) := D0
    have HD1 : Hid (W2.heap[w.heap.size + 1]? = _) := D1
    have HD2 : Hid (W2.heap[w.heap.size + 1 + 1]? = _) := D2
    have HA2 : Hid (NatV W2 _ _) := hA2
    have HB2 : Hid (NatV W2 _ _) := hB2
    have Q1 : Hid ((digits (lvA na ea eb)).length ≤ 1000000) := q1
    have Q2 : Hid ((digits (lvB nb ea eb)).length ≤ 1000000) := q2
    have fin : Hid (∀ (w3 : World) (ao3 : Option Addr) (la3 ca3 : Nat), la3 = (digits (lvA na ea eb + lvB nb ea eb)).length → NatV w3 (.slice ao3 la3 ca3) (lvA na ea eb + lvB nb ea eb) → Below W2.drew.heap.size W2.drew w3 → ∃ x, Ending.returned (.agg #[.bool sa, .slice ao3 la3 ca3, .int .i64 m]) = .returned x ∧ NumV (((w3.setCell ⟨w.heap.size + 1 + 1, 0, none⟩ (Value.bool sa)).setCell ⟨w.heap.size + 1 + 1, 1, none⟩ (Value.slice ao3 la3 ca3)).setCell ⟨w.heap.size + 1 + 1, 2, none⟩ (Value.int IntKind.i64 m)) x r.1 r.2.1 r.2.2 ∧ Below w.heap.size w (((w3.setCell ⟨w.heap.size + 1 + 1, 0, none⟩ (Value.bool sa)).setCell ⟨w.heap.size + 1 + 1, 1, none⟩ (Value.slice ao3 la3 ca3)).setCell ⟨w.heap.size + 1 + 1, 2, none⟩ (Value.int IntKind.i64 m))) := by
      intro w3 ao3 la3 ca3 hl hn hb3
      have hbx : BoxT w3 (w.heap.size + 1 + 1) 92 := BoxT.of (blk_below (show (W2.drew).heap[w.heap.size + 1 + 1]? = _ from HD2.out) hb3)
      have hr : r = (sa, lvA na ea eb + lvB nb ea eb, m) := by rw [← HSN.out, ← Hm.out]; unfold sumN; simp
      have hk : Keeps w3 (((w3.setCell ⟨w.heap.size + 1 + 1, 0, none⟩ (Value.bool sa)).setCell ⟨w.heap.size + 1 + 1, 1, none⟩ (Value.slice ao3 la3 ca3)).setCell ⟨w.heap.size + 1 + 1, 2, none⟩ (Value.int IntKind.i64 m)) := by
        repeat refine Keeps.set ?_ (t := 92) (by (repeat refine BoxT.set ?_); exact hbx) (by decide)
        exact Keeps.refl _
      refine ⟨_, rfl, ?_, ?_⟩
      · rw [hr]; exact ⟨_, _, _, rfl, hl, hn.keeps hk⟩
      · repeat refine Below.setCell ?_ (by simp; try omega) _
        exact hbB.trans ((Below.refl _ W2).drew.trans (hb3.mono (by have := hbB.size; show _ ≤ W2.heap.size; omega)) |>.mono (Nat.le_refl _))
    clear D0 D1 D2 hA2 hB2 q1 q2 hbB hla hlb he1 he2 he3 he4
    obtain ⟨k00, k01, k02, -, -, -⟩ := blk3 HD0.out
    obtain ⟨k10, k11, -, -, -, -⟩ := blk3 HD1.out
    clear k10
    go_region_held3 (fun W => W.cell? ⟨w.heap.size, 0, none⟩ = some (.bool sa) ∧ W.cell? ⟨w.heap.size, 1, none⟩ = some (.slice ao1 la1 ca1) ∧ W.cell? ⟨w.heap.size + 1, 1, none⟩ = some (.slice bo1 lb1 cb1) ∧ W.cell? ⟨w.heap.size, 2, none⟩ = some (.int .i64 m)) (first | (go_keep; done) | (refine ⟨?_, ?_, ?_, ?_⟩ <;> first | (go_keep; done) | (rw [cell_set_ne (by omega), cell_set_ne (by omega), cell_set_ne (by omega)]; assumption)))
      (first | (go_at_call 117; refine (plus_any (lvA na ea eb) (lvB nb ea eb) _ _ _ ?_ ?_ Q1.out Q2.out).mono ?_; exact HA2.out.heap rfl; exact HB2.out.heap rfl; rintro e w3 ⟨v3, rfl, hN3, hb3⟩; obtain ⟨ao3, la3, ca3, rfl, HL3⟩ := hN3.slice2; have HN3 : Hid (NatV w3 _ _) := hN3; have HB3 : Hid (Below _ _ w3) := hb3; obtain ⟨j00, j01, j02, j03, j04, j05⟩ := blk3 (blk_below (show (W2.drew).heap[w.heap.size]? = _ from HD0.out) hb3); obtain ⟨j10, j11, j12, j13, j14, j15⟩ := blk3 (blk_below (show (W2.drew).heap[w.heap.size + 1]? = _ from HD1.out) hb3); obtain ⟨j20, j21, j22, j23, j24, j25⟩ := blk3 (blk_below (show (W2.drew).heap[w.heap.size + 1 + 1]? = _ from HD2.out) hb3); clear hN3 hb3 k01 k02 k00 k11 j03 j04 j05 j12 j13 j14 j15))
    go_wp2
    refine bodyPost_ret (v := .agg #[.bool sa, .slice ao3 la3 ca3, .int .i64 m]) (by simp [results, Tryz.results65, go_sem, j20, j21, j22]) rfl ?_
    rw [HSN.out]; exact fin.out w3 ao3 la3 ca3 HL3.out HN3.out HB3.out
  · obtain rfl : sb = (!sa) := by cases sa <;> cases sb <;> simp at hs ⊢
    clear hs
    have hbb : (sa == !sa) = false := by cases sa <;> rfl
    go_wp2_with fail
    clear hbb
    obtain ⟨D0, D1, D2, hbB, hK⟩ := store_two (a := .bool sa) (b := .slice ao1 la1 ca1) (c := .int .i64 m) (a2 := .bool (!sa)) (b2 := .slice bo1 lb1 cb1) (c2 := .int .i64 m) HB0.out HB1.out HB2.out hbA (Nat.le_refl _)
    have hA2 := hM1.keeps hK
    have hB2 := hM2.keeps hK
    clear hM1 hM2 hK hbA HB0 HB1 HB2 k00 k01 k02 k03 k04 k05 k10 k11 k12 k13 k14 k15
    generalize ((((((w1.setCell { block := w.heap.size, off := 0 } (Value.bool sa)).setCell { block := w.heap.size, off := 1 } (Value.slice ao1 la1 ca1)).setCell { block := w.heap.size, off := 2 } (Value.int IntKind.i64 m)).setCell { block := w.heap.size + 1, off := 0 } (Value.bool (!sa))).setCell { block := w.heap.size + 1, off := 1 } (Value.slice bo1 lb1 cb1)).setCell { block := w.heap.size + 1, off := 2 } (Value.int IntKind.i64 m)) = W2 at *
    refine (cmp_any (lvA na ea eb) (lvB nb ea eb) _ _ _ hA2 hB2 q1 q2).mono ?_
    rintro e w4 ⟨rfl, hb4⟩
    have hA2 := hA2.below hb4 (Nat.le_refl _)
    have hB2 := hB2.below hb4 (Nat.le_refl _)
    have D0 := blk_below D0 hb4
    have D1 := blk_below D1 hb4
    have D2 := blk_below D2 hb4
    have hbB := hbB.trans (hb4.mono hbB.size)
    clear hb4
    obtain ⟨W2, rfl⟩ : ∃ W2 : World, W2 = w4 := ⟨_, rfl⟩
    rcases Nat.lt_trichotomy (lvA na ea eb) (lvB nb ea eb) with hgt | hgt | hgt
    · have hgt : Hid (lvA na ea eb < lvB nb ea eb) := hgt
      rw [show cmpI (lvA na ea eb) (lvB nb ea eb) = -1 by unfold cmpI; rw [if_pos hgt.out]]
      go_wp2_with fail
      have HD0 : Hid (W2.heap[w.heap.size]? = _) := D0
      have HD1 : Hid (W2.heap[w.heap.size + 1]? = _) := D1
      have HD2 : Hid (W2.heap[w.heap.size + 1 + 1]? = _) := D2
      have HA2 : Hid (NatV W2 _ _) := hA2
      have HB2 : Hid (NatV W2 _ _) := hB2
      have Q1 : Hid ((digits (lvA na ea eb)).length ≤ 1000000) := q1
      have Q2 : Hid ((digits (lvB nb ea eb)).length ≤ 1000000) := q2
      have fin : Hid (∀ (w3 : World) (ao3 : Option Addr) (la3 ca3 : Nat), la3 = (digits (lvB nb ea eb - lvA na ea eb)).length → NatV w3 (.slice ao3 la3 ca3) (lvB nb ea eb - lvA na ea eb) → Below W2.drew.heap.size W2.drew w3 → ∃ x, Ending.returned (.agg #[.bool (!sa), .slice ao3 la3 ca3, .int .i64 m]) = .returned x ∧ NumV (((w3.setCell ⟨w.heap.size + 1 + 1, 0, none⟩ (Value.bool (!sa))).setCell ⟨w.heap.size + 1 + 1, 1, none⟩ (Value.slice ao3 la3 ca3)).setCell ⟨w.heap.size + 1 + 1, 2, none⟩ (Value.int IntKind.i64 m)) x r.1 r.2.1 r.2.2 ∧ Below w.heap.size w (((w3.setCell ⟨w.heap.size + 1 + 1, 0, none⟩ (Value.bool (!sa))).setCell ⟨w.heap.size + 1 + 1, 1, none⟩ (Value.slice ao3 la3 ca3)).setCell ⟨w.heap.size + 1 + 1, 2, none⟩ (Value.int IntKind.i64 m))) := by
        intro w3 ao3 la3 ca3 hl hn hb3
        have hbx : BoxT w3 (w.heap.size + 1 + 1) 92 := BoxT.of (blk_below (show (W2.drew).heap[w.heap.size + 1 + 1]? = _ from HD2.out) hb3)
        have hr : r = ((!sa), lvB nb ea eb - lvA na ea eb, m) := by rw [← HSN.out, ← Hm.out]; unfold sumN; rw [if_neg (by simp), if_neg (by have := hgt.out; omega), if_neg (by have := hgt.out; omega)]
        have hk : Keeps w3 (((w3.setCell ⟨w.heap.size + 1 + 1, 0, none⟩ (Value.bool (!sa))).setCell ⟨w.heap.size + 1 + 1, 1, none⟩ (Value.slice ao3 la3 ca3)).setCell ⟨w.heap.size + 1 + 1, 2, none⟩ (Value.int IntKind.i64 m)) := by
          repeat refine Keeps.set ?_ (t := 92) (by (repeat refine BoxT.set ?_); exact hbx) (by decide)
          exact Keeps.refl _
        refine ⟨_, rfl, ?_, ?_⟩
        · rw [hr]; exact ⟨_, _, _, rfl, hl, hn.keeps hk⟩
        · repeat refine Below.setCell ?_ (by simp; try omega) _
          exact hbB.trans ((Below.refl _ W2).drew.trans (hb3.mono (by have := hbB.size; show _ ≤ W2.heap.size; omega)) |>.mono (Nat.le_refl _))
      clear D0 D1 D2 hA2 hB2 q1 q2 hbB hla hlb he1 he2 he3 he4
      obtain ⟨k00, k01, k02, -, -, -⟩ := blk3 HD0.out
      obtain ⟨k10, k11, -, -, -, -⟩ := blk3 HD1.out
      clear k00
      go_region_held3 (fun W => W.cell? ⟨w.heap.size + 1, 0, none⟩ = some (.bool (!sa)) ∧ W.cell? ⟨w.heap.size, 1, none⟩ = some (.slice ao1 la1 ca1) ∧ W.cell? ⟨w.heap.size + 1, 1, none⟩ = some (.slice bo1 lb1 cb1) ∧ W.cell? ⟨w.heap.size, 2, none⟩ = some (.int .i64 m)) (first | (go_keep; done) | (refine ⟨?_, ?_, ?_, ?_⟩ <;> first | (go_keep; done) | (rw [cell_set_ne (by omega), cell_set_ne (by omega), cell_set_ne (by omega)]; assumption)))
        (first | (go_at_call 119; refine (minus_any (lvB nb ea eb) (lvA na ea eb) _ _ _ ?_ ?_ (by have := hgt.out; omega) Q2.out).mono ?_; exact HB2.out.heap rfl; exact HA2.out.heap rfl; rintro e w3 ⟨v3, rfl, hN3, hb3⟩; obtain ⟨ao3, la3, ca3, rfl, HL3⟩ := hN3.slice2; have HN3 : Hid (NatV w3 _ _) := hN3; have HB3 : Hid (Below _ _ w3) := hb3; obtain ⟨j00, j01, j02, j03, j04, j05⟩ := blk3 (blk_below (show (W2.drew).heap[w.heap.size]? = _ from HD0.out) hb3); obtain ⟨j10, j11, j12, j13, j14, j15⟩ := blk3 (blk_below (show (W2.drew).heap[w.heap.size + 1]? = _ from HD1.out) hb3); obtain ⟨j20, j21, j22, j23, j24, j25⟩ := blk3 (blk_below (show (W2.drew).heap[w.heap.size + 1 + 1]? = _ from HD2.out) hb3); clear hN3 hb3 k01 k02 k10 k11 j03 j04 j05 j12 j13 j14 j15))
      go_wp2
      refine bodyPost_ret (v := .agg #[.bool (!sa), .slice ao3 la3 ca3, .int .i64 m]) (by simp [results, Tryz.results65, go_sem, j20, j21, j22]) rfl ?_
      rw [HSN.out]; exact fin.out w3 ao3 la3 ca3 HL3.out HN3.out HB3.out
    · rw [show cmpI (lvA na ea eb) (lvB nb ea eb) = 0 by unfold cmpI; rw [if_neg (by omega), if_pos hgt]]
      have hgt : Hid (lvA na ea eb = lvB nb ea eb) := hgt
      have hr : r = (false, 0, 0) := by rw [← HSN.out]; unfold sumN; rw [if_neg (by simp), if_pos hgt.out]
      obtain ⟨k20, k21, k22, k23, k24, k25⟩ := blk3 D2
      have fin : Hid (∀ W : World, Below w.heap.size w W → ∃ x, Ending.returned (.agg #[.bool false, .slice none 0 0, .int .i64 0]) = .returned x ∧ NumV W x r.1 r.2.1 r.2.2 ∧ Below w.heap.size w W) := by
        intro W hW
        refine ⟨_, rfl, ?_, hW⟩
        rw [hr]; exact ⟨_, _, _, rfl, rfl, NatV.zero W⟩
      clear hr D0 D1 D2 hA2 hB2 q1 q2 hla hlb he1 he2 he3 he4
      go_wp2
      refine bodyPost_ret (v := .agg #[.bool false, .slice none 0 0, .int .i64 0]) (by simp [results, Tryz.results65, go_sem, k20, k21, k22]) rfl ?_
      rw [HSN.out]; refine fin.out _ ?_
      repeat refine Below.setCell ?_ (by simp; try omega) _
      exact hbB
    · rw [show cmpI (lvA na ea eb) (lvB nb ea eb) = 1 by unfold cmpI; rw [if_neg (by omega), if_neg (by omega)]]
      have hgt : Hid (lvB nb ea eb < lvA na ea eb) := hgt
      go_wp2_with fail
      have HD0 : Hid (W2.heap[w.heap.size]? = _) := D0
      have HD1 : Hid (W2.heap[w.heap.size + 1]? = _) := D1
      have HD2 : Hid (W2.heap[w.heap.size + 1 + 1]? = _) := D2
      have HA2 : Hid (NatV W2 _ _) := hA2
      have HB2 : Hid (NatV W2 _ _) := hB2
      have Q1 : Hid ((digits (lvA na ea eb)).length ≤ 1000000) := q1
      have Q2 : Hid ((digits (lvB nb ea eb)).length ≤ 1000000) := q2
      have fin : Hid (∀ (w3 : World) (ao3 : Option Addr) (la3 ca3 : Nat), la3 = (digits (lvA na ea eb - lvB nb ea eb)).length → NatV w3 (.slice ao3 la3 ca3) (lvA na ea eb - lvB nb ea eb) → Below W2.drew.heap.size W2.drew w3 → ∃ x, Ending.returned (.agg #[.bool sa, .slice ao3 la3 ca3, .int .i64 m]) = .returned x ∧ NumV (((w3.setCell ⟨w.heap.size + 1 + 1, 0, none⟩ (Value.bool sa)).setCell ⟨w.heap.size + 1 + 1, 1, none⟩ (Value.slice ao3 la3 ca3)).setCell ⟨w.heap.size + 1 + 1, 2, none⟩ (Value.int IntKind.i64 m)) x r.1 r.2.1 r.2.2 ∧ Below w.heap.size w (((w3.setCell ⟨w.heap.size + 1 + 1, 0, none⟩ (Value.bool sa)).setCell ⟨w.heap.size + 1 + 1, 1, none⟩ (Value.slice ao3 la3 ca3)).setCell ⟨w.heap.size + 1 + 1, 2, none⟩ (Value.int IntKind.i64 m))) := by
        intro w3 ao3 la3 ca3 hl hn hb3
        have hbx : BoxT w3 (w.heap.size + 1 + 1) 92 := BoxT.of (blk_below (show (W2.drew).heap[w.heap.size + 1 + 1]? = _ from HD2.out) hb3)
        have hr : r = (sa, lvA na ea eb - lvB nb ea eb, m) := by rw [← HSN.out, ← Hm.out]; unfold sumN; rw [if_neg (by simp), if_neg (by have := hgt.out; omega), if_pos hgt.out]
        have hk : Keeps w3 (((w3.setCell ⟨w.heap.size + 1 + 1, 0, none⟩ (Value.bool sa)).setCell ⟨w.heap.size + 1 + 1, 1, none⟩ (Value.slice ao3 la3 ca3)).setCell ⟨w.heap.size + 1 + 1, 2, none⟩ (Value.int IntKind.i64 m)) := by
          repeat refine Keeps.set ?_ (t := 92) (by (repeat refine BoxT.set ?_); exact hbx) (by decide)
          exact Keeps.refl _
        refine ⟨_, rfl, ?_, ?_⟩
        · rw [hr]; exact ⟨_, _, _, rfl, hl, hn.keeps hk⟩
        · repeat refine Below.setCell ?_ (by simp; try omega) _
          exact hbB.trans ((Below.refl _ W2).drew.trans (hb3.mono (by have := hbB.size; show _ ≤ W2.heap.size; omega)) |>.mono (Nat.le_refl _))
      clear D0 D1 D2 hA2 hB2 q1 q2 hbB hla hlb he1 he2 he3 he4
      obtain ⟨k00, k01, k02, -, -, -⟩ := blk3 HD0.out
      obtain ⟨k10, k11, -, -, -, -⟩ := blk3 HD1.out
      clear k10
      go_region_held3 (fun W => W.cell? ⟨w.heap.size, 0, none⟩ = some (.bool sa) ∧ W.cell? ⟨w.heap.size, 1, none⟩ = some (.slice ao1 la1 ca1) ∧ W.cell? ⟨w.heap.size + 1, 1, none⟩ = some (.slice bo1 lb1 cb1) ∧ W.cell? ⟨w.heap.size, 2, none⟩ = some (.int .i64 m)) (first | (go_keep; done) | (refine ⟨?_, ?_, ?_, ?_⟩ <;> first | (go_keep; done) | (rw [cell_set_ne (by omega), cell_set_ne (by omega), cell_set_ne (by omega)]; assumption)))
        (first | (go_at_call 119; refine (minus_any (lvA na ea eb) (lvB nb ea eb) _ _ _ ?_ ?_ (by have := hgt.out; omega) Q1.out).mono ?_; exact HA2.out.heap rfl; exact HB2.out.heap rfl; rintro e w3 ⟨v3, rfl, hN3, hb3⟩; obtain ⟨ao3, la3, ca3, rfl, HL3⟩ := hN3.slice2; have HN3 : Hid (NatV w3 _ _) := hN3; have HB3 : Hid (Below _ _ w3) := hb3; obtain ⟨j00, j01, j02, j03, j04, j05⟩ := blk3 (blk_below (show (W2.drew).heap[w.heap.size]? = _ from HD0.out) hb3); obtain ⟨j10, j11, j12, j13, j14, j15⟩ := blk3 (blk_below (show (W2.drew).heap[w.heap.size + 1]? = _ from HD1.out) hb3); obtain ⟨j20, j21, j22, j23, j24, j25⟩ := blk3 (blk_below (show (W2.drew).heap[w.heap.size + 1 + 1]? = _ from HD2.out) hb3); clear hN3 hb3 k01 k02 k00 k11 j03 j04 j05 j12 j13 j14 j15))
      go_wp2
      refine bodyPost_ret (v := .agg #[.bool sa, .slice ao3 la3 ca3, .int .i64 m]) (by simp [results, Tryz.results65, go_sem, j20, j21, j22]) rfl ?_
      rw [HSN.out]; exact fin.out w3 ao3 la3 ca3 HL3.out HN3.out HB3.out
end Go.Proofs.YtonhpkigoplmaaaGreatDoor
