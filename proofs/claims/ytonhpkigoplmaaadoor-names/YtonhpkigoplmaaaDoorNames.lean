/-
  plain.Different and the law Names.
-/
import Derived.Test.YtonhpkigoplmaaaDoorCode
namespace Go.Proofs.YtonhpkigoplmaaaDoor
open Go.RowKit Go.Extern.Stop Go.Stop Go.Extern

theorem row9 (A : Nat → Addr) (w1 : World) : ∀ k, k < 9 → (w1.alloc (Obj.cells #[Value.iface 63 (Value.pointer (some (A 0))), Value.iface 63 (Value.pointer (some (A 1))), Value.iface 63 (Value.pointer (some (A 2))), Value.iface 63 (Value.pointer (some (A 3))), Value.iface 63 (Value.pointer (some (A 4))), Value.iface 63 (Value.pointer (some (A 5))), Value.iface 63 (Value.pointer (some (A 6))), Value.iface 63 (Value.pointer (some (A 7))), Value.iface 63 (Value.pointer (some (A 8)))] 24)).cell? ⟨w1.heap.size, k, none⟩ = some (.iface 63 (.pointer (some (A k)))) := by
  intro k hk
  rcases (show k = 0 ∨ k = 1 ∨ k = 2 ∨ k = 3 ∨ k = 4 ∨ k = 5 ∨ k = 6 ∨ k = 7 ∨ k = 8 by omega) with rfl | rfl | rfl | rfl | rfl | rfl | rfl | rfl | rfl <;> simp

set_option maxHeartbeats 4000000 in
theorem different_any (A : Nat → Addr) (w : World) (hS : Sents A w) :
    Calls Tryd.prog 4 #[] w fun e w' => e = .returned (.bool true) ∧ Below w.heap.size w w' := by
  obtain ⟨ii, hii, hcmp⟩ := Option.map_eq_some_iff.1 c_compES
  obtain ⟨jj, hjj, hjs⟩ := Option.map_eq_some_iff.1 c_sizeES
  have c0 : w.cell? ⟨0, 0, none⟩ = some (.iface 63 (.pointer (some (A 0)))) := hS.cell 0 (by omega)
  have c1 : w.cell? ⟨1, 0, none⟩ = some (.iface 63 (.pointer (some (A 1)))) := hS.cell 1 (by omega)
  have c2 : w.cell? ⟨2, 0, none⟩ = some (.iface 63 (.pointer (some (A 2)))) := hS.cell 2 (by omega)
  have c3 : w.cell? ⟨3, 0, none⟩ = some (.iface 63 (.pointer (some (A 3)))) := hS.cell 3 (by omega)
  have c4 : w.cell? ⟨4, 0, none⟩ = some (.iface 63 (.pointer (some (A 4)))) := hS.cell 4 (by omega)
  have c5 : w.cell? ⟨5, 0, none⟩ = some (.iface 63 (.pointer (some (A 5)))) := hS.cell 5 (by omega)
  have c6 : w.cell? ⟨6, 0, none⟩ = some (.iface 63 (.pointer (some (A 6)))) := hS.cell 6 (by omega)
  have c7 : w.cell? ⟨7, 0, none⟩ = some (.iface 63 (.pointer (some (A 7)))) := hS.cell 7 (by omega)
  have c8 : w.cell? ⟨8, 0, none⟩ = some (.iface 63 (.pointer (some (A 8)))) := hS.cell 8 (by omega)
  go_enter Tryd.func4, Tryd.ntmps4
  go_wp2_with fail
  have hS2 := hS.alloc (Obj.cells #[Value.iface 63 (Value.pointer (some (A 0))), Value.iface 63 (Value.pointer (some (A 1))), Value.iface 63 (Value.pointer (some (A 2))), Value.iface 63 (Value.pointer (some (A 3))), Value.iface 63 (Value.pointer (some (A 4))), Value.iface 63 (Value.pointer (some (A 5))), Value.iface 63 (Value.pointer (some (A 6))), Value.iface 63 (Value.pointer (some (A 7))), Value.iface 63 (Value.pointer (some (A 8)))] 24)
  have hb2 := (Below.refl w.heap.size w).alloc (Nat.le_refl _) (Obj.cells #[Value.iface 63 (Value.pointer (some (A 0))), Value.iface 63 (Value.pointer (some (A 1))), Value.iface 63 (Value.pointer (some (A 2))), Value.iface 63 (Value.pointer (some (A 3))), Value.iface 63 (Value.pointer (some (A 4))), Value.iface 63 (Value.pointer (some (A 5))), Value.iface 63 (Value.pointer (some (A 6))), Value.iface 63 (Value.pointer (some (A 7))), Value.iface 63 (Value.pointer (some (A 8)))] 24)
  have hl := row9 A w
  have hz : w.heap.size < (w.alloc (Obj.cells #[Value.iface 63 (Value.pointer (some (A 0))), Value.iface 63 (Value.pointer (some (A 1))), Value.iface 63 (Value.pointer (some (A 2))), Value.iface 63 (Value.pointer (some (A 3))), Value.iface 63 (Value.pointer (some (A 4))), Value.iface 63 (Value.pointer (some (A 5))), Value.iface 63 (Value.pointer (some (A 6))), Value.iface 63 (Value.pointer (some (A 7))), Value.iface 63 (Value.pointer (some (A 8)))] 24)).heap.size := by simp
  clear c0 c1 c2 c3 c4 c5 c6 c7 c8 hS
  generalize (w.alloc (Obj.cells #[Value.iface 63 (Value.pointer (some (A 0))), Value.iface 63 (Value.pointer (some (A 1))), Value.iface 63 (Value.pointer (some (A 2))), Value.iface 63 (Value.pointer (some (A 3))), Value.iface 63 (Value.pointer (some (A 4))), Value.iface 63 (Value.pointer (some (A 5))), Value.iface 63 (Value.pointer (some (A 6))), Value.iface 63 (Value.pointer (some (A 7))), Value.iface 63 (Value.pointer (some (A 8)))] 24)) = W2 at *
  go_loopw [19] (fun v wr => ∃ i : Nat, i ≤ 9 ∧ v = .int .i64 i ∧ Below W2.heap.size W2 wr) (fun v _ => 9 - (intOf v).toNat)
  case atStart => exact ⟨0, Nat.zero_le _, rfl, Below.refl _ _⟩
  case round =>
    obtain ⟨i, hi, rfl, hbr⟩ := hrel
    have hSr := hS2.below hbr (Nat.le_refl _)
    by_cases hi9 : i < 9
    · have hck : wr.cell? ⟨w.heap.size, i, none⟩ = some (.iface 63 (.pointer (some (A i)))) := (hbr.cell (by exact hz)).trans (hl i hi9)
      go_wp2_with fail
      go_loop [4] (fun v => ∃ k : Nat, k ≤ i ∧ v = .int .i64 k) (fun v => i - (intOf v).toNat)
      case atStart => exact ⟨0, Nat.zero_le _, rfl⟩
      case round =>
        obtain ⟨k, hk, rfl⟩ := hrel
        by_cases hki : k < i
        · obtain ⟨ca, ta, hra⟩ := hSr.row k (by omega)
          obtain ⟨cb, tb, hrb⟩ := hSr.row i hi9
          have hne : A k ≠ A i := hSr.other k i hki hi9
          have hckk : wr.cell? ⟨w.heap.size, k, none⟩ = some (.iface 63 (.pointer (some (A k)))) := (hbr.cell (by exact hz)).trans (hl k (by omega))
          have heq := run_eql_iface_ptr_other (P := Tryd.prog) wr Tryd.underlying24 Tryd.underlying63 hii hcmp hjj (by rw [hjs]; decide) hne hra hrb
          go_wp2_with fail
          go_round
          case rel => exact ⟨k + 1, by omega, by go_num⟩
          case measure => simp [intOf]; omega
        · have hke : k = i := by omega
          subst hke
          go_wp2_with fail
          refine (code_sent A _ k hi9 hSr).mono ?_
          rintro e w3 ⟨rfl, hb3⟩
          have hb4 : Below W2.heap.size W2 w3 := hbr.trans (hb3.mono hbr.size)
          go_wp2_with fail
          go_roundw
          case rel => exact ⟨k + 1, by omega, by go_num, hb4⟩
          case measure => simp [intOf]; omega
    · go_wp2_with fail
      go_ret
      exact ⟨rfl, hb2.trans (hbr.mono (by omega))⟩

theorem names_any (A : Nat → Addr) (w : World) (hS : Sents A w) :
    Calls Tryd.prog 3 #[] w fun e w' => e = .returned (.bool true) ∧ Below w.heap.size w w' := by
  go_enter Tryd.func3, Tryd.ntmps3
  go_wp2_with fail
  refine (different_any A _ hS).mono ?_
  rintro e w3 ⟨rfl, hb3⟩
  go_wp2_with fail
  go_ret
  exact ⟨rfl, hb3⟩
end Go.Proofs.YtonhpkigoplmaaaDoor
