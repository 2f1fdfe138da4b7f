/-
  encloseref.negated, sign.
-/
import Derived.Test.YtonhpkigoplmaaaGreatDoorNatF
namespace Go.Proofs.YtonhpkigoplmaaaGreatDoor
open Go.RowKit

/-- A value of type Num: a sign, a natural number, a power of two. -/
def NumV (w : World) (x : Value) (s : Bool) (n : Nat) (e : Int) : Prop :=
  ∃ ao len cap, x = .agg #[.bool s, .slice ao len cap, .int .i64 e] ∧ len = (digits n).length ∧ NatV w (.slice ao len cap) n

theorem NatV.slice {w : World} {v : Value} {n : Nat} (h : NatV w v n) : ∃ ao cap, v = .slice ao (digits n).length cap := by
  obtain ⟨ao, cap, rfl, _⟩ := h.open
  exact ⟨_, _, rfl⟩

theorem NumV.mk {w : World} {v : Value} {s : Bool} {n : Nat} {e : Int} (h : NatV w v n) : NumV w (.agg #[.bool s, v, .int .i64 e]) s n e := by
  obtain ⟨ao, cap, rfl⟩ := h.slice
  exact ⟨_, _, _, rfl, rfl, h⟩

theorem NumV.below {w w' : World} {x : Value} {s : Bool} {n : Nat} {e : Int} {B : Nat} (h : NumV w x s n e) (hb : Below B w w') (hB : w.heap.size ≤ B) : NumV w' x s n e := by
  obtain ⟨ao, len, cap, rfl, hl, h⟩ := h
  exact ⟨_, _, _, rfl, hl, h.below hb hB⟩

theorem NumV.keeps {w w' : World} {x : Value} {s : Bool} {n : Nat} {e : Int} (h : NumV w x s n e) (k : Keeps w w') : NumV w' x s n e := by
  obtain ⟨ao, len, cap, rfl, hl, h⟩ := h
  exact ⟨_, _, _, rfl, hl, h.keeps k⟩

/-- A block of cells of a type. -/
def BoxT (w : World) (g : Nat) (t : TypeId) : Prop := ∃ (vs : Array Value) (fz : Nat × Nat), w.heap[g]? = some (Obj.cells vs t fz)
theorem BoxT.of {w : World} {g : Nat} {t : TypeId} {vs : Array Value} {fz : Nat × Nat} (h : w.heap[g]? = some (Obj.cells vs t fz)) : BoxT w g t := ⟨vs, fz, h⟩
theorem BoxT.set {w : World} {g : Nat} {t : TypeId} (h : BoxT w g t) {a : Addr} {u : Value} : BoxT (w.setCell a u) g t := by
  obtain ⟨vs, fz, h⟩ := h
  by_cases e : g = a.block
  · subst e
    simp only [BoxT, World.setCell, Array.getElem?_modify, if_true, h, Option.map_some]
    exact ⟨_, _, rfl⟩
  · exact ⟨vs, fz, by rw [Below.heap_setCell _ _ _ _ e]; exact h⟩
theorem BoxT.drew {w : World} {g : Nat} {t : TypeId} (h : BoxT w g t) : BoxT w.drew g t := h
theorem BoxT.alloc {w : World} {g : Nat} {t : TypeId} (h : BoxT w g t) (o : Obj) : BoxT (w.alloc o) g t := by
  obtain ⟨vs, fz, h⟩ := h
  exact ⟨vs, fz, by rw [Below.heap_alloc _ _ _ (Array.getElem?_eq_some_iff.1 h).1]; exact h⟩
theorem Keeps.set {a w : World} (k : Keeps a w) {g j : Nat} {t : TypeId} (h : BoxT w g t) (ht : t ≠ 3) {u : Value} : Keeps a (w.setCell ⟨g, j, none⟩ u) := fun b cur hb => by
  obtain ⟨vs, fz, h⟩ := h
  have h1 := k b cur hb
  have hne : b ≠ g := by
    rintro rfl
    rw [h] at h1
    simp only [Option.some.injEq, Obj.cells.injEq] at h1
    exact ht h1.2.1
  rw [Below.heap_setCell _ _ _ _ (by exact hne)]
  exact h1

theorem NatV.zero (w : World) : NatV w (.slice none 0 0) 0 := ⟨by simp [digits_zero], Or.inl ⟨rfl, rfl⟩⟩

theorem len_zero_iff (n : Nat) : (digits n).length = 0 ↔ n = 0 := by rw [List.length_eq_zero_iff, digits_nil_iff]

/-- The sign that negated gives. -/
def negS (s : Bool) (n : Nat) : Bool := !s && decide (n ≠ 0)

theorem negated_any (x : Value) (s : Bool) (n : Nat) (e : Int) (w : World) (h : NumV w x s n e) :
    Calls Tryz.prog 61 #[x] w fun ev w' => ∃ x', ev = .returned x' ∧ NumV w' x' (negS s n) n e ∧ Below w.heap.size w w' := by
  obtain ⟨ao, len, cap, rfl, hl, hN⟩ := h
  have HL : Hid (len = (digits n).length) := hl
  clear hl
  cases s
  · by_cases h0 : len = 0
    · subst h0
      have e0 : n = 0 := (len_zero_iff n).1 HL.out.symm
      have r : negS false n = false := by simp [negS, e0]
      rw [r]
      have fin : ∀ W, Below w.heap.size w W → ∃ x', Ending.returned (.agg #[.bool false, .slice ao 0 cap, .int .i64 e]) = .returned x' ∧ NumV W x' false n e ∧ Below w.heap.size w W := fun W hW => ⟨_, rfl, ⟨_, _, _, rfl, HL.out, hN.below hW (Nat.le_refl _)⟩, hW⟩
      clear e0 r hN
      go_enter Tryz.func61, Tryz.ntmps61
      go_wp2
      refine bodyPost_ret (v := .agg #[.bool false, .slice ao 0 cap, .int .i64 e]) (by simp [results, Tryz.results61, go_sem]) rfl ?_
      exact fin _ (((Below.refl _ _).alloc (Nat.le_refl _) _).alloc (by simp) _)
    · have e0 : n ≠ 0 := fun h => h0 (by rw [HL.out]; exact (len_zero_iff n).2 h)
      have r : negS false n = true := by simp [negS, e0]
      rw [r]
      have fin : ∀ W, Below w.heap.size w W → ∃ x', Ending.returned (.agg #[.bool true, .slice ao len cap, .int .i64 e]) = .returned x' ∧ NumV W x' true n e ∧ Below w.heap.size w W := fun W hW => ⟨_, rfl, ⟨_, _, _, rfl, HL.out, hN.below hW (Nat.le_refl _)⟩, hW⟩
      have h1 : 0 < len := by omega
      clear e0 r hN
      go_enter Tryz.func61, Tryz.ntmps61
      go_wp2
      refine bodyPost_ret (v := .agg #[.bool true, .slice ao len cap, .int .i64 e]) (by simp [results, Tryz.results61, go_sem]) rfl ?_
      exact fin _ (((Below.refl _ _).alloc (Nat.le_refl _) _).alloc (by simp) _)
  · · have r : negS true n = false := by simp [negS]
      rw [r]
      have fin : ∀ W, Below w.heap.size w W → ∃ x', Ending.returned (.agg #[.bool false, .slice ao len cap, .int .i64 e]) = .returned x' ∧ NumV W x' false n e ∧ Below w.heap.size w W := fun W hW => ⟨_, rfl, ⟨_, _, _, rfl, HL.out, hN.below hW (Nat.le_refl _)⟩, hW⟩
      clear r hN
      go_enter Tryz.func61, Tryz.ntmps61
      go_wp2
      refine bodyPost_ret (v := .agg #[.bool false, .slice ao len cap, .int .i64 e]) (by simp [results, Tryz.results61, go_sem]) rfl ?_
      exact fin _ (((Below.refl _ _).alloc (Nat.le_refl _) _).alloc (by simp) _)

/-- What sign tells. -/
def sgnI (s : Bool) (n : Nat) : Int := if n = 0 then 0 else if s then -1 else 1

theorem sign_any (x : Value) (s : Bool) (n : Nat) (e : Int) (w : World) (h : NumV w x s n e) :
    Calls Tryz.prog 69 #[x] w fun ev w' => ev = .returned (.int .i64 (sgnI s n)) ∧ Below w.heap.size w w' := by
  obtain ⟨ao, len, cap, rfl, hl, hN⟩ := h
  have HL : Hid (len = (digits n).length) := hl
  clear hl hN
  by_cases h0 : len = 0
  · subst h0
    have e0 : n = 0 := (len_zero_iff n).1 HL.out.symm
    rw [show sgnI s n = 0 by simp [sgnI, e0]]
    clear e0
    go_enter Tryz.func69, Tryz.ntmps69
    go_wp2
    go_ret
    exact ⟨rfl, (Below.refl _ _).alloc (Nat.le_refl _) _⟩
  · have e0 : n ≠ 0 := fun h => h0 (by rw [HL.out]; exact (len_zero_iff n).2 h)
    have h1 : ((len : Int) == 0) = false := by simp; omega
    cases s
    · rw [show sgnI false n = 1 by simp [sgnI, e0]]
      clear e0
      go_enter Tryz.func69, Tryz.ntmps69
      go_wp2
      go_ret
      exact ⟨rfl, (Below.refl _ _).alloc (Nat.le_refl _) _⟩
    · rw [show sgnI true n = -1 by simp [sgnI, e0]]
      clear e0
      go_enter Tryz.func69, Tryz.ntmps69
      go_wp2
      go_ret
      exact ⟨rfl, (Below.refl _ _).alloc (Nat.le_refl _) _⟩
end Go.Proofs.YtonhpkigoplmaaaGreatDoor
