/-
  encloseref.level.
-/
import Derived.Test.YtonhpkigoplmaaaGreatDoorNumA
import Derived.RegionTactic
import Derived.ChangeAlike
namespace Go.Proofs.YtonhpkigoplmaaaGreatDoor
open Go.RowKit

theorem bcell {W w1 : World} (hb : Below W.heap.size W w1) : (∀ b o, b < W.heap.size → w1.cell? ⟨b, o, none⟩ = W.cell? ⟨b, o, none⟩) ∧ (∀ b o, b < W.heap.size → w1.frozen? ⟨b, o, none⟩ = W.frozen? ⟨b, o, none⟩) :=
  ⟨fun b o h => hb.cell (p := ⟨b, o, none⟩) h, fun b o h => hb.frozen (p := ⟨b, o, none⟩) h⟩

theorem blk3 {W : World} {g : Nat} {a b c : Value} {t : TypeId} (h : W.heap[g]? = some (.cells #[a, b, c] t (0, 0))) :
    W.cell? ⟨g, 0, none⟩ = some a ∧ W.cell? ⟨g, 1, none⟩ = some b ∧ W.cell? ⟨g, 2, none⟩ = some c ∧ W.frozen? ⟨g, 0, none⟩ = false ∧ W.frozen? ⟨g, 1, none⟩ = false ∧ W.frozen? ⟨g, 2, none⟩ = false :=
  ⟨by simp [World.cell?, h], by simp [World.cell?, h], by simp [World.cell?, h], by simp [World.frozen?, h], by simp [World.frozen?, h], by simp [World.frozen?, h]⟩

theorem blk_new (w : World) (o : Obj) : (w.alloc o).heap[w.heap.size]? = some o := heap_alloc_new w o
theorem blk_old {w : World} {g : Nat} {x : Obj} (h : w.heap[g]? = some x) (o : Obj) : (w.alloc o).heap[g]? = some x := by
  rw [Below.heap_alloc _ _ _ (Array.getElem?_eq_some_iff.1 h).1]; exact h
theorem blk_below {w w1 : World} {g : Nat} {x : Obj} (h : w.heap[g]? = some x) (hb : Below w.heap.size w w1) : w1.heap[g]? = some x := by
  rw [hb.block g (Array.getElem?_eq_some_iff.1 h).1]; exact h

set_option maxHeartbeats 1000000 in
set_option maxRecDepth 100000 in
theorem level_any (xa xb : Value) (sa sb : Bool) (na nb : Nat) (ea eb : Int) (w : World) (ha : NumV w xa sa na ea) (hb : NumV w xb sb nb eb)
    (hla : (digits na).length ≤ 500000) (hlb : (digits nb).length ≤ 500000) (he1 : -400000 ≤ ea) (he2 : ea ≤ 400000) (he3 : -400000 ≤ eb) (he4 : eb ≤ 400000) :
    Calls Tryz.prog 116 #[xa, xb] w fun ev w' => ∃ ya yb, ev = .returned (.tuple #[ya, yb]) ∧ NumV w' ya sa (na * 2 ^ (ea - min ea eb).toNat) (min ea eb) ∧ NumV w' yb sb (nb * 2 ^ (eb - min ea eb).toNat) (min ea eb) ∧ Below w.heap.size w w' := by
  obtain ⟨ao, la, ca, rfl, hl1, hNa⟩ := ha
  obtain ⟨bo, lb, cb, rfl, hl2, hNb⟩ := hb
  have HL1 : Hid (la = (digits na).length) := hl1
  have HL2 : Hid (lb = (digits nb).length) := hl2
  clear hl1 hl2
  by_cases hgt : eb < ea
  · obtain ⟨k, rfl⟩ : ∃ k : Nat, ea = eb + (k : Int) := ⟨(ea - eb).toNat, by omega⟩
    go_enter Tryz.func116, Tryz.ntmps116
    go_wp2_with fail
    rw [show eb + (k : Int) - eb = (k : Int) by omega]
    have hW : Below w.heap.size w ((((w.alloc (Obj.cells #[Value.bool sa, Value.slice ao la ca, Value.int IntKind.i64 (eb + ↑k)] 92)).alloc (Obj.cells #[Value.bool sb, Value.slice bo lb cb, Value.int IntKind.i64 eb] 92)).alloc (Obj.cells #[Value.bool false, Value.slice none 0 0, Value.int IntKind.i64 0] 92)).alloc (Obj.cells #[Value.bool false, Value.slice none 0 0, Value.int IntKind.i64 0] 92)) :=
      ((((Below.refl _ _).alloc (Nat.le_refl _) _).alloc (by simp) _).alloc (by simp; omega) _).alloc (by simp; omega) _
    refine (up_any na k _ _ (hNa.below hW (Nat.le_refl _)) hla (by omega)).mono ?_
    rintro e w1 ⟨v1, rfl, hN1, hb1⟩
    obtain ⟨ao1, ca1, rfl⟩ := hN1.slice
    have hbA : Below w.heap.size w w1 := hW.trans (hb1.mono hW.size)
    have g0 : BoxT w1 w.heap.size 92 := BoxT.of (blk_below (blk_old (blk_old (blk_old (blk_new w _) _) _) _) hb1)
    have g1 : BoxT w1 (w.heap.size + 1) 92 := BoxT.of (by have := blk_below (blk_old (blk_old (blk_new (w.alloc _) _) _) _) hb1; simpa only [World.size_alloc] using this)
    have g2 : BoxT w1 (w.heap.size + 1 + 1) 92 := BoxT.of (by have := blk_below (blk_old (blk_new ((w.alloc _).alloc _) _) _) hb1; simpa only [World.size_alloc] using this)
    have g3 : BoxT w1 (w.heap.size + 1 + 1 + 1) 92 := BoxT.of (by have := blk_below (blk_new (((w.alloc _).alloc _).alloc _) _) hb1; simpa only [World.size_alloc] using this)
    obtain ⟨k00, k01, k02, k03, k04, k05⟩ := blk3 (blk_below (blk_old (blk_old (blk_old (blk_new w _) _) _) _) hb1)
    obtain ⟨k10, k11, k12, k13, k14, k15⟩ := blk3 (blk_below (blk_old (blk_old (blk_new (w.alloc _) _) _) _) hb1)
    obtain ⟨k20, k21, k22, k23, k24, k25⟩ := blk3 (blk_below (blk_old (blk_new ((w.alloc _).alloc _) _) _) hb1)
    obtain ⟨k30, k31, k32, k33, k34, k35⟩ := blk3 (blk_below (blk_new (((w.alloc _).alloc _).alloc _) _) hb1)
    simp only [World.size_alloc] at k10 k11 k12 k13 k14 k15 k20 k21 k22 k23 k24 k25 k30 k31 k32 k33 k34 k35
    have fin : ∀ W, Below w.heap.size w W → Keeps w1 W → ∃ ya yb, Ending.returned (.tuple #[.agg #[.bool sa, .slice ao1 (digits (na * 2 ^ k)).length ca1, .int .i64 eb], .agg #[.bool sb, .slice bo lb cb, .int .i64 eb]]) = .returned (.tuple #[ya, yb]) ∧ NumV W ya sa (na * 2 ^ (eb + (k : Int) - min (eb + (k : Int)) (eb)).toNat) (min (eb + (k : Int)) (eb)) ∧ NumV W yb sb (nb * 2 ^ (eb - min (eb + (k : Int)) (eb)).toNat) (min (eb + (k : Int)) (eb)) ∧ Below w.heap.size w W := by
      intro W hW1 hK
      rw [show min (eb + (k : Int)) (eb) = eb by omega]
      rw [show (eb + (k : Int) - eb).toNat = k by omega, show (eb - eb).toNat = 0 by omega]
      rw [Nat.pow_zero, Nat.mul_one]
      exact ⟨_, _, rfl, ⟨_, _, _, rfl, rfl, hN1.keeps hK⟩, ⟨_, _, _, rfl, HL2.out, (hNb.below hbA (Nat.le_refl _)).keeps hK⟩, hW1⟩
    clear hW hN1 hb1 hNa hNb
    go_wp2_with fail
    go_region
    go_wp2
    refine bodyPost_ret (v := .tuple #[.agg #[.bool sa, .slice ao1 (digits (na * 2 ^ k)).length ca1, .int .i64 eb], .agg #[.bool sb, .slice bo lb cb, .int .i64 eb]]) (by simp [results, Tryz.results116, go_sem, k20, k21, k22, k30, k31, k32]) rfl ?_
    refine fin _ ?_ ?_
    · refine Below.drew ?_
      repeat refine Below.setCell ?_ (by simp; try omega) _
      exact hbA
    · refine Keeps.trans ?_ (Keeps.drew _)
      repeat refine Keeps.set ?_ (t := 92) (by (repeat refine BoxT.set ?_); first | exact g0 | exact g1 | exact g2 | exact g3) (by decide)
      exact Keeps.refl _
  · obtain ⟨k, rfl⟩ : ∃ k : Nat, eb = ea + (k : Int) := ⟨(eb - ea).toNat, by omega⟩
    go_enter Tryz.func116, Tryz.ntmps116
    go_wp2_with fail
    rw [show ea + (k : Int) - ea = (k : Int) by omega]
    have hW : Below w.heap.size w ((((w.alloc (Obj.cells #[Value.bool sa, Value.slice ao la ca, Value.int IntKind.i64 ea] 92)).alloc (Obj.cells #[Value.bool sb, Value.slice bo lb cb, Value.int IntKind.i64 (ea + ↑k)] 92)).alloc (Obj.cells #[Value.bool false, Value.slice none 0 0, Value.int IntKind.i64 0] 92)).alloc (Obj.cells #[Value.bool false, Value.slice none 0 0, Value.int IntKind.i64 0] 92)) :=
      ((((Below.refl _ _).alloc (Nat.le_refl _) _).alloc (by simp) _).alloc (by simp; omega) _).alloc (by simp; omega) _
    refine (up_any nb k _ _ (hNb.below hW (Nat.le_refl _)) hlb (by omega)).mono ?_
    rintro e w1 ⟨v1, rfl, hN1, hb1⟩
    obtain ⟨ao1, ca1, rfl⟩ := hN1.slice
    have hbA : Below w.heap.size w w1 := hW.trans (hb1.mono hW.size)
    have g0 : BoxT w1 w.heap.size 92 := BoxT.of (blk_below (blk_old (blk_old (blk_old (blk_new w _) _) _) _) hb1)
    have g1 : BoxT w1 (w.heap.size + 1) 92 := BoxT.of (by have := blk_below (blk_old (blk_old (blk_new (w.alloc _) _) _) _) hb1; simpa only [World.size_alloc] using this)
    have g2 : BoxT w1 (w.heap.size + 1 + 1) 92 := BoxT.of (by have := blk_below (blk_old (blk_new ((w.alloc _).alloc _) _) _) hb1; simpa only [World.size_alloc] using this)
    have g3 : BoxT w1 (w.heap.size + 1 + 1 + 1) 92 := BoxT.of (by have := blk_below (blk_new (((w.alloc _).alloc _).alloc _) _) hb1; simpa only [World.size_alloc] using this)
    obtain ⟨k00, k01, k02, k03, k04, k05⟩ := blk3 (blk_below (blk_old (blk_old (blk_old (blk_new w _) _) _) _) hb1)
    obtain ⟨k10, k11, k12, k13, k14, k15⟩ := blk3 (blk_below (blk_old (blk_old (blk_new (w.alloc _) _) _) _) hb1)
    obtain ⟨k20, k21, k22, k23, k24, k25⟩ := blk3 (blk_below (blk_old (blk_new ((w.alloc _).alloc _) _) _) hb1)
    obtain ⟨k30, k31, k32, k33, k34, k35⟩ := blk3 (blk_below (blk_new (((w.alloc _).alloc _).alloc _) _) hb1)
    simp only [World.size_alloc] at k10 k11 k12 k13 k14 k15 k20 k21 k22 k23 k24 k25 k30 k31 k32 k33 k34 k35
    have fin : ∀ W, Below w.heap.size w W → Keeps w1 W → ∃ ya yb, Ending.returned (.tuple #[.agg #[.bool sa, .slice ao la ca, .int .i64 ea], .agg #[.bool sb, .slice ao1 (digits (nb * 2 ^ k)).length ca1, .int .i64 ea]]) = .returned (.tuple #[ya, yb]) ∧ NumV W ya sa (na * 2 ^ (ea - min (ea) (ea + (k : Int))).toNat) (min (ea) (ea + (k : Int))) ∧ NumV W yb sb (nb * 2 ^ (ea + (k : Int) - min (ea) (ea + (k : Int))).toNat) (min (ea) (ea + (k : Int))) ∧ Below w.heap.size w W := by
      intro W hW1 hK
      rw [show min (ea) (ea + (k : Int)) = ea by omega]
      rw [show (ea - ea).toNat = 0 by omega, show (ea + (k : Int) - ea).toNat = k by omega]
      rw [Nat.pow_zero, Nat.mul_one]
      exact ⟨_, _, rfl, ⟨_, _, _, rfl, HL1.out, (hNa.below hbA (Nat.le_refl _)).keeps hK⟩, ⟨_, _, _, rfl, rfl, hN1.keeps hK⟩, hW1⟩
    clear hW hN1 hb1 hNa hNb
    go_wp2_with fail
    go_region
    go_wp2
    refine bodyPost_ret (v := .tuple #[.agg #[.bool sa, .slice ao la ca, .int .i64 ea], .agg #[.bool sb, .slice ao1 (digits (nb * 2 ^ k)).length ca1, .int .i64 ea]]) (by simp [results, Tryz.results116, go_sem, k20, k21, k22, k30, k31, k32]) rfl ?_
    refine fin _ ?_ ?_
    · refine Below.drew ?_
      repeat refine Below.setCell ?_ (by simp; try omega) _
      exact hbA
    · refine Keeps.trans ?_ (Keeps.drew _)
      repeat refine Keeps.set ?_ (t := 92) (by (repeat refine BoxT.set ?_); first | exact g0 | exact g1 | exact g2 | exact g3) (by decide)
      exact Keeps.refl _
end Go.Proofs.YtonhpkigoplmaaaGreatDoor
