/-
  encloseref.less, Plain.
-/
import Derived.Test.YtonhpkigoplmaaaGreatDoorNumC
namespace Go.Proofs.YtonhpkigoplmaaaGreatDoor
open Go.RowKit

theorem ltc {w : World} {p : Addr} {v : Value} (h : w.cell? p = some v) : p.block < w.heap.size := World.block_lt_of_cell? w p h

/-- What less tells. -/
def lessN (sa : Bool) (na : Nat) (ea : Int) (sb : Bool) (nb : Nat) (eb : Int) : Bool :=
  decide (sgnI (sumN sa na ea (negS sb nb) nb eb).1 (sumN sa na ea (negS sb nb) nb eb).2.1 < 0)

set_option maxHeartbeats 1000000 in
set_option maxRecDepth 100000 in
theorem less_any (xa xb : Value) (sa sb : Bool) (na nb : Nat) (ea eb : Int) (w : World) (ha : NumV w xa sa na ea) (hb : NumV w xb sb nb eb)
    (hla : (digits na).length ≤ 400000) (hlb : (digits nb).length ≤ 400000) (he1 : -400000 ≤ ea) (he2 : ea ≤ 400000) (he3 : -400000 ≤ eb) (he4 : eb ≤ 400000) :
    Calls Tryz.prog 58 #[xa, xb] w fun ev w' => ev = .returned (.bool (lessN sa na ea sb nb eb)) ∧ Below w.heap.size w w' := by
  obtain ⟨ao, la, ca, rfl, hl1, hNa⟩ := ha
  obtain ⟨bo, lb, cb, rfl, hl2, hNb⟩ := hb
  have HL1 : Hid (la = (digits na).length) := hl1
  have HL2 : Hid (lb = (digits nb).length) := hl2
  clear hl1 hl2
  go_enter Tryz.func58, Tryz.ntmps58
  go_wp2_with fail
  have hW : Below w.heap.size w ((w.alloc (Obj.cells #[Value.bool sa, Value.slice ao la ca, Value.int IntKind.i64 ea] 92)).alloc (Obj.cells #[Value.bool sb, Value.slice bo lb cb, Value.int IntKind.i64 eb] 92)) :=
    ((Below.refl _ _).alloc (Nat.le_refl _) _).alloc (by simp) _
  refine (negated_any _ sb nb eb _ ⟨_, _, _, rfl, HL2.out, hNb.below hW (Nat.le_refl _)⟩).mono ?_
  rintro e w1 ⟨x1, rfl, ⟨ao1, la1, ca1, rfl, hm1, hM1⟩, hb1⟩
  have B0 := blk_below (blk_old (blk_new w _) _) hb1
  have hNa1 := (hNa.below hW (Nat.le_refl _)).below hb1 (Nat.le_refl _)
  have hbA : Below w.heap.size w w1 := hW.trans (hb1.mono hW.size)
  have HM1 : Hid (la1 = (digits nb).length) := hm1
  clear hNa hNb hW hb1 hm1
  obtain ⟨k00, k01, k02, -, -, -⟩ := blk3 B0
  clear B0
  have hz : w.heap.size < w1.heap.size := ltc k00
  go_wp2_with fail
  have hW2 : Below w1.heap.size w1 (w1.alloc (Obj.cells #[Value.bool (negS sb nb), Value.slice ao1 la1 ca1, Value.int IntKind.i64 eb] 92)) := (Below.refl _ _).alloc (Nat.le_refl _) _
  refine (sum_any _ _ sa (negS sb nb) na nb ea eb _ ⟨_, _, _, rfl, HL1.out, hNa1.below hW2 (Nat.le_refl _)⟩ ⟨_, _, _, rfl, HM1.out, hM1.below hW2 (Nat.le_refl _)⟩ hla hlb he1 he2 he3 he4).mono ?_
  rintro e w2 ⟨x2, rfl, ⟨ao2, la2, ca2, rfl, hm2, hM2⟩, hb2⟩
  have hbB : Below w.heap.size w w2 := (hbA.alloc hbA.size _).trans (hb2.mono (by simp; omega))
  have hlt : Hid (lessN sa na ea sb nb eb = decide (sgnI (sumN sa na ea (negS sb nb) nb eb).1 (sumN sa na ea (negS sb nb) nb eb).2.1 < 0)) := rfl
  have HM2 : Hid (la2 = _) := hm2
  clear hNa1 hM1 hbA hW2 hb2 k00 k01 k02 hz hm2
  generalize sumN sa na ea (negS sb nb) nb eb = r at *
  obtain ⟨rs, rn, re⟩ := r
  simp only at hM2 ⊢
  go_wp2_with fail
  refine (sign_any _ rs rn re _ ⟨_, _, _, rfl, HM2.out, hM2.below ((Below.refl _ _).alloc (Nat.le_refl _) _) (Nat.le_refl _)⟩).mono ?_
  rintro e w3 ⟨rfl, hb3⟩
  have hbC : Below w.heap.size w w3 := (hbB.alloc hbB.size _).trans (hb3.mono (by have := hbB.size; simp; omega))
  clear hM2 hbB hb3
  have hlt2 : Hid (lessN sa na ea sb nb eb = decide (sgnI rs rn < 0)) := hlt.out
  clear hlt
  go_wp2
  go_ret
  rw [hlt2.out]
  exact ⟨rfl, hbC⟩
end Go.Proofs.YtonhpkigoplmaaaGreatDoor
