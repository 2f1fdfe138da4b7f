/-
  plain.code: an error's number, at nil and at the nine errors.
-/
import Derived.Test.YtonhpkigoplmaaaGreatDoorErrs
import Derived.Outline
namespace Go.Proofs.YtonhpkigoplmaaaGreatDoor
open Go.RowKit Go.Extern.Stop Go.Stop Go.Extern

/-- Which variable the k-th error is. -/
def gix : Nat → Nat
  | 0 => 3
  | 1 => 4
  | 2 => 5
  | 3 => 1
  | 4 => 2
  | 5 => 0
  | 6 => 6
  | 7 => 7
  | _ => 8

/-- The nine errors and errors.errorType lie as the program lays them: A k is where the k-th error lies. -/
structure Sents (A : Nat → Addr) (w : World) : Prop where
  ty : w.cell? ⟨9, 0, none⟩ = some (.iface 216 (.agg #[.pointer (some ⟨11, 70, none⟩)]))
  cell : ∀ k, k < 9 → w.cell? ⟨gix k, 0, none⟩ = some (.iface 229 (.pointer (some (A k))))
  row : ∀ k, k < 9 → ∃ c t, w.heap[(A k).block]? = some (.cells c t (0, 0))
  other : ∀ j k, j < k → k < 9 → A j ≠ A k

theorem lt_of_cell {w : World} {p : Addr} {v : Value} (h : w.cell? p = some v) : p.block < w.heap.size := by
  rcases Nat.lt_or_ge p.block w.heap.size with h' | h'
  · exact h'
  · simp [World.cell?, Array.getElem?_eq_none h'] at h

theorem lt_of_row {w : World} {b : Nat} {o : Obj} (h : w.heap[b]? = some o) : b < w.heap.size := by
  rcases Nat.lt_or_ge b w.heap.size with h' | h'
  · exact h'
  · simp [Array.getElem?_eq_none h'] at h

theorem Sents.below {A : Nat → Addr} {w w' : World} {B : Nat} (h : Sents A w) (hb : Below B w w') (hB : w.heap.size ≤ B) : Sents A w' := by
  refine ⟨?_, fun k hk => ?_, fun k hk => ?_, h.other⟩
  · have := lt_of_cell h.ty
    rw [hb.cell (by simp at this ⊢; omega)]; exact h.ty
  · have := lt_of_cell (h.cell k hk)
    rw [hb.cell (by simp at this ⊢; omega)]; exact h.cell k hk
  · obtain ⟨c, t, hr⟩ := h.row k hk
    have := lt_of_row hr
    exact ⟨c, t, by rw [hb.block _ (by omega)]; exact hr⟩

theorem Sents.alloc {A : Nat → Addr} {w : World} (h : Sents A w) (o : Obj) : Sents A (w.alloc o) :=
  h.below ((Below.refl _ _).alloc (Nat.le_refl _) o) (Nat.le_refl _)

theorem code_nil (w : World) : Calls Tryz.prog 49 #[.nilIface] w fun e w' => e = .returned (.tuple #[.int .i64 0, .string ⟨#[]⟩]) ∧ w' = w := by
  go_enter Tryz.func49, Tryz.ntmps49
  go_wp2
  go_ret2
  exact ⟨rfl, rfl⟩

set_option maxHeartbeats 4000000 in
theorem code_sent (A : Nat → Addr) (w : World) (i : Nat) (hi : i < 9) (hS : Sents A w) :
    Calls Tryz.prog 49 #[.iface 229 (.pointer (some (A i)))] w fun e w' => e = .returned (.tuple #[.int .i64 (i + 1 : Nat), .string ⟨#[]⟩]) ∧ Below w.heap.size w w' := by
  go_enter Tryz.func49, Tryz.ntmps49
  go_wp2_with fail
  refine (as_miss _ _ _ (hS.alloc _).ty).mono ?_
  rintro e w1 ⟨rfl, hb1⟩
  have hS1 := (hS.alloc _).below hb1 (Nat.le_refl _)
  have hb : Below w.heap.size w w1 := ((Below.refl _ _).alloc (Nat.le_refl _) _).trans (hb1.mono (by simp))
  have c0 : w1.cell? ⟨3, 0, none⟩ = some (.iface 229 (.pointer (some (A 0)))) := hS1.cell 0 (by omega)
  have c1 : w1.cell? ⟨4, 0, none⟩ = some (.iface 229 (.pointer (some (A 1)))) := hS1.cell 1 (by omega)
  have c2 : w1.cell? ⟨5, 0, none⟩ = some (.iface 229 (.pointer (some (A 2)))) := hS1.cell 2 (by omega)
  have c3 : w1.cell? ⟨1, 0, none⟩ = some (.iface 229 (.pointer (some (A 3)))) := hS1.cell 3 (by omega)
  have c4 : w1.cell? ⟨2, 0, none⟩ = some (.iface 229 (.pointer (some (A 4)))) := hS1.cell 4 (by omega)
  have c5 : w1.cell? ⟨0, 0, none⟩ = some (.iface 229 (.pointer (some (A 5)))) := hS1.cell 5 (by omega)
  have c6 : w1.cell? ⟨6, 0, none⟩ = some (.iface 229 (.pointer (some (A 6)))) := hS1.cell 6 (by omega)
  have c7 : w1.cell? ⟨7, 0, none⟩ = some (.iface 229 (.pointer (some (A 7)))) := hS1.cell 7 (by omega)
  have c8 : w1.cell? ⟨8, 0, none⟩ = some (.iface 229 (.pointer (some (A 8)))) := hS1.cell 8 (by omega)
  clear hb1
  go_wp2_with fail
  have hS2 := hS1.alloc (Obj.cells #[Value.iface 229 (Value.pointer (some (A 0))), Value.iface 229 (Value.pointer (some (A 1))), Value.iface 229 (Value.pointer (some (A 2))), Value.iface 229 (Value.pointer (some (A 3))), Value.iface 229 (Value.pointer (some (A 4))), Value.iface 229 (Value.pointer (some (A 5))), Value.iface 229 (Value.pointer (some (A 6))), Value.iface 229 (Value.pointer (some (A 7))), Value.iface 229 (Value.pointer (some (A 8)))] 70)
  have hb2 := hb.alloc hb.size (Obj.cells #[Value.iface 229 (Value.pointer (some (A 0))), Value.iface 229 (Value.pointer (some (A 1))), Value.iface 229 (Value.pointer (some (A 2))), Value.iface 229 (Value.pointer (some (A 3))), Value.iface 229 (Value.pointer (some (A 4))), Value.iface 229 (Value.pointer (some (A 5))), Value.iface 229 (Value.pointer (some (A 6))), Value.iface 229 (Value.pointer (some (A 7))), Value.iface 229 (Value.pointer (some (A 8)))] 70)
  have hl : ∀ k, k < 9 → (w1.alloc (Obj.cells #[Value.iface 229 (Value.pointer (some (A 0))), Value.iface 229 (Value.pointer (some (A 1))), Value.iface 229 (Value.pointer (some (A 2))), Value.iface 229 (Value.pointer (some (A 3))), Value.iface 229 (Value.pointer (some (A 4))), Value.iface 229 (Value.pointer (some (A 5))), Value.iface 229 (Value.pointer (some (A 6))), Value.iface 229 (Value.pointer (some (A 7))), Value.iface 229 (Value.pointer (some (A 8)))] 70)).cell? ⟨w1.heap.size, k, none⟩ = some (.iface 229 (.pointer (some (A k)))) := by
    intro k hk
    rcases (show k = 0 ∨ k = 1 ∨ k = 2 ∨ k = 3 ∨ k = 4 ∨ k = 5 ∨ k = 6 ∨ k = 7 ∨ k = 8 by omega) with rfl | rfl | rfl | rfl | rfl | rfl | rfl | rfl | rfl <;> simp
  clear c0 c1 c2 c3 c4 c5 c6 c7 c8 hb hS1 hS
  generalize (w1.alloc (Obj.cells #[Value.iface 229 (Value.pointer (some (A 0))), Value.iface 229 (Value.pointer (some (A 1))), Value.iface 229 (Value.pointer (some (A 2))), Value.iface 229 (Value.pointer (some (A 3))), Value.iface 229 (Value.pointer (some (A 4))), Value.iface 229 (Value.pointer (some (A 5))), Value.iface 229 (Value.pointer (some (A 6))), Value.iface 229 (Value.pointer (some (A 7))), Value.iface 229 (Value.pointer (some (A 8)))] 70)) = W2 at *
  go_loop [38] (fun v => ∃ k : Nat, k ≤ i ∧ v = .int .i64 k) (fun v => 9 - (intOf v).toNat)
  case atStart => exact ⟨0, Nat.zero_le _, rfl⟩
  case round =>
    obtain ⟨k, hk, rfl⟩ := hrel
    have hck := hl k (by omega)
    have hk9 : k < 9 := by omega
    clear hl
    by_cases hki : k = i
    · subst hki
      go_wp2_with fail
      refine (is_same _ _).mono ?_
      rintro e w' ⟨rfl, rfl⟩
      go_wp2_with fail
      go_ret2
      exact ⟨by go_num, hb2⟩
    · obtain ⟨ca, ta, hra⟩ := hS2.row i hi
      obtain ⟨cb, tb, hrb⟩ := hS2.row k hk9
      have hne : A i ≠ A k := fun h => hS2.other k i (by omega) hi h.symm
      go_wp2_with fail
      refine (is_other _ _ ca cb ta tb _ hne hra hrb).mono ?_
      rintro e w' ⟨rfl, rfl⟩
      go_wp2_with fail
      go_round
      case rel => exact ⟨k + 1, by omega, by go_num⟩
      case measure => simp [intOf]; omega
end Go.Proofs.YtonhpkigoplmaaaGreatDoor
