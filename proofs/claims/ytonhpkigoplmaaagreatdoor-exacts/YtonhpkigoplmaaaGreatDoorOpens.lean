/-
  A script as it is read: its steps' cells.
-/
import Derived.Test.YtonhpkigoplmaaaGreatDoorLawB
import Derived.Deep.Slices
import Derived.Lib.SmallJoins
import Derived.ProofKit
import Derived.OpenShut
namespace Go.Proofs.YtonhpkigoplmaaaGreatDoor
open Go.RowKit Go.Deep Go.ChangeShapes Go.WideShapes

theorem k_cellsOp : Tryz.prog.cellsOf 31 = 9 := by kernel_rfl
theorem k_cellsBox : Tryz.prog.cellsOf 28 = 2 := by kernel_rfl
theorem k_cells_int : Tryz.prog.cellsOf 3 = 1 := by kernel_rfl
theorem k_cells_u64 : Tryz.prog.cellsOf 26 = 1 := by kernel_rfl
theorem k_cells_str : Tryz.prog.cellsOf 9 = 1 := by kernel_rfl
theorem k_cells_p : Tryz.prog.cellsOf 29 = 1 := by kernel_rfl

section
variable {H : Type} {enc : TypeId × Value → H} {W : World} {base : Nat} {spare : Nat → Bool} {held : Bool}

theorem u64_wf {n : Int} (h : (Lit.int .u64 n).wf = true) : ∃ m : Nat, n = (m : Int) ∧ m < 18446744073709551616 := by
  have hb := bounds_u64 h
  exact ⟨n.toNat, by omega, by omega⟩

theorem box_cells {fuel : Nat} {a b : Value} {x : DataW H × List MemPlace} (h : DataW.trod enc Tryz.prog W base spare held fuel 28 [a, b] = some x) :
    ∃ l u : Nat, a = .int .u64 (l : Int) ∧ b = .int .u64 (u : Int) ∧ l < 18446744073709551616 ∧ u < 18446744073709551616 := by
  obtain ⟨y0, y1, n, _, _, h0, h1⟩ := trod_struct2 Tryz.underlying28 h
  rw [k_cells_u64] at h0 h1
  obtain ⟨p, e0, _, w0⟩ := DataW.trod_int Tryz.underlying26 h0
  obtain ⟨q, e1, _, w1⟩ := DataW.trod_int Tryz.underlying26 h1
  obtain ⟨l, rfl, hl⟩ := u64_wf w0
  obtain ⟨u, rfl, hu⟩ := u64_wf w1
  simp at e0 e1
  exact ⟨l, u, e0, e1, hl, hu⟩

theorem list9 {α : Type} {l : List α} (h : l.length = 9) : ∃ a0 a1 a2 a3 a4 a5 a6 a7 a8, l = [a0, a1, a2, a3, a4, a5, a6, a7, a8] := by
  match l, h with
  | [a0, a1, a2, a3, a4, a5, a6, a7, a8], _ => exact ⟨_, _, _, _, _, _, _, _, _, rfl⟩

/-- One step's cells. -/
theorem op_cells {fuel : Nat} {cs : List Value} {x : DataW H × List MemPlace} (h : DataW.trod enc Tryz.prog W base spare held fuel 31 cs = some x) :
    ∃ (k a b : Int) (s : ByteArray) (xl xh yl yh : Nat) (po : Option Addr) (pl pc : Nat), cs = [.int .i64 k, .int .i64 a, .int .i64 b, .string s, .int .u64 (xl : Int), .int .u64 (xh : Int), .int .u64 (yl : Int), .int .u64 (yh : Int), .slice po pl pc] ∧ xl < 18446744073709551616 ∧ xh < 18446744073709551616 ∧ yl < 18446744073709551616 ∧ yh < 18446744073709551616 ∧ (-9223372036854775808 ≤ a ∧ a < 9223372036854775808) ∧ (-9223372036854775808 ≤ b ∧ b < 9223372036854775808) := by
  obtain ⟨xs, n, _, _, hl, hlen, hf⟩ := DataW.trod_struct Tryz.underlying31 h
  rw [k_cellsOp] at hl
  obtain ⟨a0, a1, a2, a3, a4, a5, a6, a7, a8, rfl⟩ := list9 hl
  have hlen7 : xs.length = 7 := hlen
  have get : ∀ i, i < 7 → ∃ y, xs[i]? = some y := fun i hi => ⟨xs[i]'(by rw [hlen7]; exact hi), List.getElem?_eq_getElem (by rw [hlen7]; exact hi)⟩
  obtain ⟨y0, g0⟩ := get 0 (by omega)
  obtain ⟨y1, g1⟩ := get 1 (by omega)
  obtain ⟨y2, g2⟩ := get 2 (by omega)
  obtain ⟨y3, g3⟩ := get 3 (by omega)
  obtain ⟨y4, g4⟩ := get 4 (by omega)
  obtain ⟨y5, g5⟩ := get 5 (by omega)
  obtain ⟨y6, g6⟩ := get 6 (by omega)
  have f0 : DataW.trod enc Tryz.prog W base spare held n 3 (List.take (Tryz.prog.cellsOf 3) (List.drop 0 [a0, a1, a2, a3, a4, a5, a6, a7, a8])) = some y0 := (hf 0 _ rfl).trans g0
  have f1 : DataW.trod enc Tryz.prog W base spare held n 3 (List.take (Tryz.prog.cellsOf 3) (List.drop 1 [a0, a1, a2, a3, a4, a5, a6, a7, a8])) = some y1 := (hf 1 _ rfl).trans g1
  have f2 : DataW.trod enc Tryz.prog W base spare held n 3 (List.take (Tryz.prog.cellsOf 3) (List.drop 2 [a0, a1, a2, a3, a4, a5, a6, a7, a8])) = some y2 := (hf 2 _ rfl).trans g2
  have f3 : DataW.trod enc Tryz.prog W base spare held n 9 (List.take (Tryz.prog.cellsOf 9) (List.drop 3 [a0, a1, a2, a3, a4, a5, a6, a7, a8])) = some y3 := (hf 3 _ rfl).trans g3
  have f4 : DataW.trod enc Tryz.prog W base spare held n 28 (List.take (Tryz.prog.cellsOf 28) (List.drop 4 [a0, a1, a2, a3, a4, a5, a6, a7, a8])) = some y4 := (hf 4 _ rfl).trans g4
  have f5 : DataW.trod enc Tryz.prog W base spare held n 28 (List.take (Tryz.prog.cellsOf 28) (List.drop 6 [a0, a1, a2, a3, a4, a5, a6, a7, a8])) = some y5 := (hf 5 _ rfl).trans g5
  have f6 : DataW.trod enc Tryz.prog W base spare held n 29 (List.take (Tryz.prog.cellsOf 29) (List.drop 8 [a0, a1, a2, a3, a4, a5, a6, a7, a8])) = some y6 := (hf 6 _ rfl).trans g6
  rw [k_cells_int] at f0 f1 f2
  rw [k_cells_str] at f3
  rw [k_cellsBox] at f4 f5
  rw [k_cells_p] at f6
  obtain ⟨k, e0, -, -⟩ := DataW.trod_int Tryz.underlying3 f0
  obtain ⟨a, e1, -, wa⟩ := DataW.trod_int Tryz.underlying3 f1
  obtain ⟨b, e2, -, wb⟩ := DataW.trod_int Tryz.underlying3 f2
  have ba := bounds_i64 wa
  have bb := bounds_i64 wb
  obtain ⟨s, e3, -, -⟩ := DataW.trod_string Tryz.underlying9 f3
  obtain ⟨xl, xh, e4, e5, b4, b5⟩ := box_cells (show DataW.trod enc Tryz.prog W base spare held n 28 [a4, a5] = some y4 from f4)
  obtain ⟨yl, yh, e6, e7, b6, b7⟩ := box_cells (show DataW.trod enc Tryz.prog W base spare held n 28 [a6, a7] = some y5 from f5)
  obtain ⟨po, pl, pc, e8⟩ := Joins.slice_form Tryz.underlying29 f6
  simp at e0 e1 e2 e3 e8
  subst e0 e1 e2 e3 e4 e5 e6 e7 e8
  exact ⟨_, _, _, _, _, _, _, _, _, _, _, rfl, b4, b5, b6, b7, ⟨by omega, by omega⟩, ⟨by omega, by omega⟩⟩

/-- A script that is read lies as its steps. -/
theorem script_of {fuel : Nat} {v : Value} {d : DataW H} {ps : List MemPlace} (h : DataW.trod enc Tryz.prog W base spare held fuel 22 v.cells.toList = some (d, ps)) (hv : ∃ a len cap, v = .slice a len cap) :
    ∃ (z : Script) (ao : Option Addr) (n c : Nat), v = .slice ao n c ∧ (n = 0 ∨ ∃ g off, ao = some ⟨g, off, none⟩ ∧ g < W.heap.size ∧ z.at W g off n) ∧ (∀ i, i < n → (z.xl i < 18446744073709551616 ∧ z.xh i < 18446744073709551616) ∧ (z.yl i < 18446744073709551616 ∧ z.yh i < 18446744073709551616) ∧ (-9223372036854775808 ≤ z.a i ∧ z.a i < 9223372036854775808) ∧ (-9223372036854775808 ≤ z.b i ∧ z.b i < 9223372036854775808)) ∧
      (d = .nil ∧ n = 0 ∨ ∃ es sp, d = .slice es sp ∧ es.length = n) := by
  obtain ⟨ao, n, c, rfl⟩ := hv
  have hcs : (Value.slice ao n c).cells.toList = [.slice ao n c] := rfl
  rw [hcs] at h
  rcases open_slice Tryz.underlying22 h with ⟨h0, hx⟩ | ⟨a, len, cap, m, f, D, Pl, h0, hb, hl, hm, hmm, hx, hall⟩
  · simp at h0
    obtain ⟨rfl, rfl, rfl⟩ := h0
    simp at hx
    exact ⟨⟨fun _ => 0, fun _ => 0, fun _ => 0, fun _ => ByteArray.empty, fun _ => 0, fun _ => 0, fun _ => 0, fun _ => 0, fun _ => none, fun _ => 0, fun _ => 0⟩, none, 0, 0, rfl, Or.inl rfl, fun i hi => by omega, Or.inl ⟨hx.1, rfl⟩⟩
  · simp at h0
    obtain ⟨rfl, rfl, rfl⟩ := h0
    have hmn : n ≤ m := by rw [hmm]; split <;> omega
    rw [k_cellsOp] at hall
    have hop : ∀ i, i < n → ∃ t : (Int × Int × Int) × ByteArray × (Nat × Nat × Nat × Nat) × (Option Addr × Nat × Nat),
        (W.cell? (a.add (i * 9)) = some (.int .i64 t.1.1) ∧ W.cell? ((a.add (i * 9)).add 1) = some (.int .i64 t.1.2.1) ∧ W.cell? ((a.add (i * 9)).add 2) = some (.int .i64 t.1.2.2) ∧ W.cell? ((a.add (i * 9)).add 3) = some (.string t.2.1) ∧
         W.cell? ((a.add (i * 9)).add 4) = some (.int .u64 (t.2.2.1.1 : Int)) ∧ W.cell? ((a.add (i * 9)).add 5) = some (.int .u64 (t.2.2.1.2.1 : Int)) ∧ W.cell? ((a.add (i * 9)).add 6) = some (.int .u64 (t.2.2.1.2.2.1 : Int)) ∧ W.cell? ((a.add (i * 9)).add 7) = some (.int .u64 (t.2.2.1.2.2.2 : Int)) ∧
         W.cell? ((a.add (i * 9)).add 8) = some (.slice t.2.2.2.1 t.2.2.2.2.1 t.2.2.2.2.2)) ∧
        (t.2.2.1.1 < 18446744073709551616 ∧ t.2.2.1.2.1 < 18446744073709551616) ∧ (t.2.2.1.2.2.1 < 18446744073709551616 ∧ t.2.2.1.2.2.2 < 18446744073709551616) ∧ (-9223372036854775808 ≤ t.1.2.1 ∧ t.1.2.1 < 9223372036854775808) ∧ (-9223372036854775808 ≤ t.1.2.2 ∧ t.1.2.2 < 9223372036854775808) := by
      intro i hi
      obtain ⟨cs', h1, h2⟩ := hall i (by omega)
      obtain ⟨-, -, hc⟩ := World.cells?_some h1
      obtain ⟨k, a', b', s, xl, xh, yl, yh, po, pl, pc, rfl, q1, q2, q3, q4, q5⟩ := op_cells h2
      have e0 : (a.add (i * 9)).add 0 = a.add (i * 9) := by simp [Addr.add]
      refine ⟨((k, a', b'), s, (xl, xh, yl, yh), (po, pl, pc)), ⟨?_, ?_, ?_, ?_, ?_, ?_, ?_, ?_, ?_⟩, ⟨q1, q2⟩, ⟨q3, q4⟩, q5⟩
      · have := hc 0 (by omega); rw [e0] at this; simpa using this
      · simpa using hc 1 (by omega)
      · simpa using hc 2 (by omega)
      · simpa using hc 3 (by omega)
      · simpa using hc 4 (by omega)
      · simpa using hc 5 (by omega)
      · simpa using hc 6 (by omega)
      · simpa using hc 7 (by omega)
      · simpa using hc 8 (by omega)
    obtain ⟨F, hF⟩ := choose_lt (α := (Int × Int × Int) × ByteArray × (Nat × Nat × Nat × Nat) × (Option Addr × Nat × Nat)) hop
    refine ⟨⟨fun i => (F i).1.1, fun i => (F i).1.2.1, fun i => (F i).1.2.2, fun i => (F i).2.1, fun i => (F i).2.2.1.1, fun i => (F i).2.2.1.2.1, fun i => (F i).2.2.1.2.2.1, fun i => (F i).2.2.1.2.2.2, fun i => (F i).2.2.2.1, fun i => (F i).2.2.2.2.1, fun i => (F i).2.2.2.2.2⟩, some a, n, c, rfl, ?_, fun i hi => (hF i hi).2, ?_⟩
    · by_cases hn : n = 0
      · exact Or.inl hn
      · right
        obtain ⟨g, off, spot⟩ := a
        have h00 := (hF 0 (by omega)).1.1
        have hspot : spot = none := by simpa [Addr.add] using World.cell?_spot h00
        subst hspot
        have ea : ∀ j, (Addr.mk g off none).add j = ⟨g, off + j, none⟩ := fun j => by
          by_cases hj : j = 0
          · subst hj; simp [Addr.add]
          · simp [Addr.add, hj]
        have ea2 : ∀ i j, ((Addr.mk g off none).add i).add j = ⟨g, off + i + j, none⟩ := fun i j => by
          rw [ea]
          by_cases hj : j = 0
          · subst hj; simp [Addr.add]
          · simp [Addr.add, hj]
        refine ⟨g, off, rfl, ?_, fun i hi => ?_⟩
        · have := World.block_lt_of_cell? W _ h00
          rw [ea] at this
          exact this
        · have := (hF i hi).1
          rw [ea2, ea2, ea2, ea2, ea2, ea2, ea2, ea2, ea] at this
          exact this
    · right
      simp only [Prod.mk.injEq] at hx
      exact ⟨_, _, hx.1, by simp⟩
end
end Go.Proofs.YtonhpkigoplmaaaGreatDoor
