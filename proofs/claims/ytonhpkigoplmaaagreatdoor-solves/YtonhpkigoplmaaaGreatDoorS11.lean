/-
  Opens, OpensP, PolyW, PolyR, ApR, ApF, ApP, ApL, PolyH, PolyF, PieceR, PieceT, ListX, JdgA, SolR.
-/
import Derived.Test.YtonhpkigoplmaaaGreatDoorS10
import Derived.Deep.Slices
import Derived.Lib.SmallJoins
import Derived.ProofKit
import Derived.OpenShut
import Derived.SizedLaws
import Derived.Test.YtonhpkigoplmaaaGreatDoorS03
import Derived.Test.YtonhpkigoplmaaaGreatDoorS01
import Derived.Test.YtonhpkigoplmaaaGreatDoorS09
import Derived.Deep.RegionHeld3
namespace Go.Proofs.YtonhpkigoplmaaaGreatDoor
open Go.RowKit Go.Deep Go.ChangeShapes Go.WideShapes

theorem k_cellsOp : Tryz.prog.cellsOf 31 = 9 := by kernel_rfl
theorem k_cellsBox : Tryz.prog.cellsOf 28 = 2 := by kernel_rfl
theorem k_cells_int : Tryz.prog.cellsOf 3 = 1 := by kernel_rfl
theorem k_cells_u64 : Tryz.prog.cellsOf 26 = 1 := by kernel_rfl
theorem k_cells_str : Tryz.prog.cellsOf 9 = 1 := by kernel_rfl
theorem k_cells_p : Tryz.prog.cellsOf 29 = 1 := by kernel_rfl

section
variable {H : Type} {enc : TypeId × Value → H} {W : World} {base : Nat} {spare : Nat → Bool} {held : Bool}

theorem u64_wf {n : Int} (h : (Lit.int .u64 n).wf = true) : ∃ m : Nat, n = (m : Int) ∧ m < 18446744073709551616 := by
  have hb := bounds_u64 h
  exact ⟨n.toNat, by omega, by omega⟩

theorem box_cells {fuel : Nat} {a b : Value} {x : DataW H × List MemPlace} (h : DataW.trod enc Tryz.prog W base spare held fuel 28 [a, b] = some x) :
    ∃ l u : Nat, a = .int .u64 (l : Int) ∧ b = .int .u64 (u : Int) ∧ l < 18446744073709551616 ∧ u < 18446744073709551616 := by
  obtain ⟨y0, y1, n, _, _, h0, h1⟩ := trod_struct2 Tryz.underlying28 h
  rw [k_cells_u64] at h0 h1
  obtain ⟨p, e0, _, w0⟩ := DataW.trod_int Tryz.underlying26 h0
  obtain ⟨q, e1, _, w1⟩ := DataW.trod_int Tryz.underlying26 h1
  obtain ⟨l, rfl, hl⟩ := u64_wf w0
  obtain ⟨u, rfl, hu⟩ := u64_wf w1
  simp at e0 e1
  exact ⟨l, u, e0, e1, hl, hu⟩

theorem list9 {α : Type} {l : List α} (h : l.length = 9) : ∃ a0 a1 a2 a3 a4 a5 a6 a7 a8, l = [a0, a1, a2, a3, a4, a5, a6, a7, a8] := by
  match l, h with
  | [a0, a1, a2, a3, a4, a5, a6, a7, a8], _ => exact ⟨_, _, _, _, _, _, _, _, _, rfl⟩

/-- One step's cells. -/
theorem op_cells {fuel : Nat} {cs : List Value} {x : DataW H × List MemPlace} (h : DataW.trod enc Tryz.prog W base spare held fuel 31 cs = some x) :
    ∃ (k a b : Int) (s : ByteArray) (xl xh yl yh : Nat) (po : Option Addr) (pl pc : Nat), cs = [.int .i64 k, .int .i64 a, .int .i64 b, .string s, .int .u64 (xl : Int), .int .u64 (xh : Int), .int .u64 (yl : Int), .int .u64 (yh : Int), .slice po pl pc] ∧ xl < 18446744073709551616 ∧ xh < 18446744073709551616 ∧ yl < 18446744073709551616 ∧ yh < 18446744073709551616 ∧ (-9223372036854775808 ≤ a ∧ a < 9223372036854775808) ∧ (-9223372036854775808 ≤ b ∧ b < 9223372036854775808) := by
  obtain ⟨xs, n, _, _, hl, hlen, hf⟩ := DataW.trod_struct Tryz.underlying31 h
  rw [k_cellsOp] at hl
  obtain ⟨a0, a1, a2, a3, a4, a5, a6, a7, a8, rfl⟩ := list9 hl
  have hlen7 : xs.length = 7 := hlen
  have get : ∀ i, i < 7 → ∃ y, xs[i]? = some y := fun i hi => ⟨xs[i]'(by rw [hlen7]; exact hi), List.getElem?_eq_getElem (by rw [hlen7]; exact hi)⟩
  obtain ⟨y0, g0⟩ := get 0 (by omega)
  obtain ⟨y1, g1⟩ := get 1 (by omega)
  obtain ⟨y2, g2⟩ := get 2 (by omega)
  obtain ⟨y3, g3⟩ := get 3 (by omega)
  obtain ⟨y4, g4⟩ := get 4 (by omega)
  obtain ⟨y5, g5⟩ := get 5 (by omega)
  obtain ⟨y6, g6⟩ := get 6 (by omega)
  have f0 : DataW.trod enc Tryz.prog W base spare held n 3 (List.take (Tryz.prog.cellsOf 3) (List.drop 0 [a0, a1, a2, a3, a4, a5, a6, a7, a8])) = some y0 := (hf 0 _ rfl).trans g0
  have f1 : DataW.trod enc Tryz.prog W base spare held n 3 (List.take (Tryz.prog.cellsOf 3) (List.drop 1 [a0, a1, a2, a3, a4, a5, a6, a7, a8])) = some y1 := (hf 1 _ rfl).trans g1
  have f2 : DataW.trod enc Tryz.prog W base spare held n 3 (List.take (Tryz.prog.cellsOf 3) (List.drop 2 [a0, a1, a2, a3, a4, a5, a6, a7, a8])) = some y2 := (hf 2 _ rfl).trans g2
  have f3 : DataW.trod enc Tryz.prog W base spare held n 9 (List.take (Tryz.prog.cellsOf 9) (List.drop 3 [a0, a1, a2, a3, a4, a5, a6, a7, a8])) = some y3 := (hf 3 _ rfl).trans g3
  have f4 : DataW.trod enc Tryz.prog W base spare held n 28 (List.take (Tryz.prog.cellsOf 28) (List.drop 4 [a0, a1, a2, a3, a4, a5, a6, a7, a8])) = some y4 := (hf 4 _ rfl).trans g4
  have f5 : DataW.trod enc Tryz.prog W base spare held n 28 (List.take (Tryz.prog.cellsOf 28) (List.drop 6 [a0, a1, a2, a3, a4, a5, a6, a7, a8])) = some y5 := (hf 5 _ rfl).trans g5
  have f6 : DataW.trod enc Tryz.prog W base spare held n 29 (List.take (Tryz.prog.cellsOf 29) (List.drop 8 [a0, a1, a2, a3, a4, a5, a6, a7, a8])) = some y6 := (hf 6 _ rfl).trans g6
  rw [k_cells_int] at f0 f1 f2
  rw [k_cells_str] at f3
  rw [k_cellsBox] at f4 f5
  rw [k_cells_p] at f6
  obtain ⟨k, e0, -, -⟩ := DataW.trod_int Tryz.underlying3 f0
  obtain ⟨a, e1, -, wa⟩ := DataW.trod_int Tryz.underlying3 f1
  obtain ⟨b, e2, -, wb⟩ := DataW.trod_int Tryz.underlying3 f2
  have ba := bounds_i64 wa
  have bb := bounds_i64 wb
  obtain ⟨s, e3, -, -⟩ := DataW.trod_string Tryz.underlying9 f3
  obtain ⟨xl, xh, e4, e5, b4, b5⟩ := box_cells (show DataW.trod enc Tryz.prog W base spare held n 28 [a4, a5] = some y4 from f4)
  obtain ⟨yl, yh, e6, e7, b6, b7⟩ := box_cells (show DataW.trod enc Tryz.prog W base spare held n 28 [a6, a7] = some y5 from f5)
  obtain ⟨po, pl, pc, e8⟩ := Joins.slice_form Tryz.underlying29 f6
  simp at e0 e1 e2 e3 e8
  subst e0 e1 e2 e3 e4 e5 e6 e7 e8
  exact ⟨_, _, _, _, _, _, _, _, _, _, _, rfl, b4, b5, b6, b7, ⟨by omega, by omega⟩, ⟨by omega, by omega⟩⟩

/-- A script that is read lies as its steps. -/
theorem script_of {fuel : Nat} {v : Value} {d : DataW H} {ps : List MemPlace} (h : DataW.trod enc Tryz.prog W base spare held fuel 22 v.cells.toList = some (d, ps)) (hv : ∃ a len cap, v = .slice a len cap) :
    ∃ (z : Script) (ao : Option Addr) (n c : Nat), v = .slice ao n c ∧ (n = 0 ∨ ∃ g off, ao = some ⟨g, off, none⟩ ∧ g < W.heap.size ∧ z.at W g off n) ∧ (∀ i, i < n → (z.xl i < 18446744073709551616 ∧ z.xh i < 18446744073709551616) ∧ (z.yl i < 18446744073709551616 ∧ z.yh i < 18446744073709551616) ∧ (-9223372036854775808 ≤ z.a i ∧ z.a i < 9223372036854775808) ∧ (-9223372036854775808 ≤ z.b i ∧ z.b i < 9223372036854775808)) ∧
      (d = .nil ∧ n = 0 ∨ ∃ es sp, d = .slice es sp ∧ es.length = n) := by
  obtain ⟨ao, n, c, rfl⟩ := hv
  have hcs : (Value.slice ao n c).cells.toList = [.slice ao n c] := rfl
  rw [hcs] at h
  rcases open_slice Tryz.underlying22 h with ⟨h0, hx⟩ | ⟨a, len, cap, m, f, D, Pl, h0, hb, hl, hm, hmm, hx, hall⟩
  · simp at h0
    obtain ⟨rfl, rfl, rfl⟩ := h0
    simp at hx
    exact ⟨⟨fun _ => 0, fun _ => 0, fun _ => 0, fun _ => ByteArray.empty, fun _ => 0, fun _ => 0, fun _ => 0, fun _ => 0, fun _ => none, fun _ => 0, fun _ => 0⟩, none, 0, 0, rfl, Or.inl rfl, fun i hi => by omega, Or.inl ⟨hx.1, rfl⟩⟩
  · simp at h0
    obtain ⟨rfl, rfl, rfl⟩ := h0
    have hmn : n ≤ m := by rw [hmm]; split <;> omega
    rw [k_cellsOp] at hall
    have hop : ∀ i, i < n → ∃ t : (Int × Int × Int) × ByteArray × (Nat × Nat × Nat × Nat) × (Option Addr × Nat × Nat),
        (W.cell? (a.add (i * 9)) = some (.int .i64 t.1.1) ∧ W.cell? ((a.add (i * 9)).add 1) = some (.int .i64 t.1.2.1) ∧ W.cell? ((a.add (i * 9)).add 2) = some (.int .i64 t.1.2.2) ∧ W.cell? ((a.add (i * 9)).add 3) = some (.string t.2.1) ∧
         W.cell? ((a.add (i * 9)).add 4) = some (.int .u64 (t.2.2.1.1 : Int)) ∧ W.cell? ((a.add (i * 9)).add 5) = some (.int .u64 (t.2.2.1.2.1 : Int)) ∧ W.cell? ((a.add (i * 9)).add 6) = some (.int .u64 (t.2.2.1.2.2.1 : Int)) ∧ W.cell? ((a.add (i * 9)).add 7) = some (.int .u64 (t.2.2.1.2.2.2 : Int)) ∧
         W.cell? ((a.add (i * 9)).add 8) = some (.slice t.2.2.2.1 t.2.2.2.2.1 t.2.2.2.2.2)) ∧
        (t.2.2.1.1 < 18446744073709551616 ∧ t.2.2.1.2.1 < 18446744073709551616) ∧ (t.2.2.1.2.2.1 < 18446744073709551616 ∧ t.2.2.1.2.2.2 < 18446744073709551616) ∧ (-9223372036854775808 ≤ t.1.2.1 ∧ t.1.2.1 < 9223372036854775808) ∧ (-9223372036854775808 ≤ t.1.2.2 ∧ t.1.2.2 < 9223372036854775808) := by
      intro i hi
      obtain ⟨cs', h1, h2⟩ := hall i (by omega)
      obtain ⟨-, -, hc⟩ := World.cells?_some h1
      obtain ⟨k, a', b', s, xl, xh, yl, yh, po, pl, pc, rfl, q1, q2, q3, q4, q5⟩ := op_cells h2
      have e0 : (a.add (i * 9)).add 0 = a.add (i * 9) := by simp [Addr.add]
      refine ⟨((k, a', b'), s, (xl, xh, yl, yh), (po, pl, pc)), ⟨?_, ?_, ?_, ?_, ?_, ?_, ?_, ?_, ?_⟩, ⟨q1, q2⟩, ⟨q3, q4⟩, q5⟩
      · have := hc 0 (by omega); rw [e0] at this; simpa using this
      · simpa using hc 1 (by omega)
      · simpa using hc 2 (by omega)
      · simpa using hc 3 (by omega)
      · simpa using hc 4 (by omega)
      · simpa using hc 5 (by omega)
      · simpa using hc 6 (by omega)
      · simpa using hc 7 (by omega)
      · simpa using hc 8 (by omega)
    obtain ⟨F, hF⟩ := choose_lt (α := (Int × Int × Int) × ByteArray × (Nat × Nat × Nat × Nat) × (Option Addr × Nat × Nat)) hop
    refine ⟨⟨fun i => (F i).1.1, fun i => (F i).1.2.1, fun i => (F i).1.2.2, fun i => (F i).2.1, fun i => (F i).2.2.1.1, fun i => (F i).2.2.1.2.1, fun i => (F i).2.2.1.2.2.1, fun i => (F i).2.2.1.2.2.2, fun i => (F i).2.2.2.1, fun i => (F i).2.2.2.2.1, fun i => (F i).2.2.2.2.2⟩, some a, n, c, rfl, ?_, fun i hi => (hF i hi).2, ?_⟩
    · by_cases hn : n = 0
      · exact Or.inl hn
      · right
        obtain ⟨g, off, spot⟩ := a
        have h00 := (hF 0 (by omega)).1.1
        have hspot : spot = none := by simpa [Addr.add] using World.cell?_spot h00
        subst hspot
        have ea : ∀ j, (Addr.mk g off none).add j = ⟨g, off + j, none⟩ := fun j => by
          by_cases hj : j = 0
          · subst hj; simp [Addr.add]
          · simp [Addr.add, hj]
        have ea2 : ∀ i j, ((Addr.mk g off none).add i).add j = ⟨g, off + i + j, none⟩ := fun i j => by
          rw [ea]
          by_cases hj : j = 0
          · subst hj; simp [Addr.add]
          · simp [Addr.add, hj]
        refine ⟨g, off, rfl, ?_, fun i hi => ?_⟩
        · have := World.block_lt_of_cell? W _ h00
          rw [ea] at this
          exact this
        · have := (hF i hi).1
          rw [ea2, ea2, ea2, ea2, ea2, ea2, ea2, ea2, ea] at this
          exact this
    · right
      simp only [Prod.mk.injEq] at hx
      exact ⟨_, _, hx.1, by simp⟩
end
end Go.Proofs.YtonhpkigoplmaaaGreatDoor
namespace Go.Proofs.YtonhpkigoplmaaaGreatDoor
open Go.RowKit Go.Deep Go.ChangeShapes Go.WideShapes

/-- A slice of n words as they lie in memory. -/
def WdV (W : World) (ao : Option Addr) (n : Nat) (ps : Nat → Nat) : Prop :=
  (∀ i, i < n → ps i < 18446744073709551616) ∧ (n = 0 ∨ ∃ g off, ao = some ⟨g, off, none⟩ ∧ g < W.heap.size ∧ ∀ i, i < n → W.cell? ⟨g, off + i, none⟩ = some (.int .u64 (ps i : Int)))

theorem WdV.below {W W' : World} {ao : Option Addr} {n : Nat} {ps : Nat → Nat} (h : WdV W ao n ps) (hb : Below W.heap.size W W') : WdV W' ao n ps := by
  refine ⟨h.1, ?_⟩
  rcases h.2 with h0 | ⟨g, off, e, hg, hc⟩
  · exact .inl h0
  · exact .inr ⟨g, off, e, Nat.lt_of_lt_of_le hg hb.size, fun i hi => by rw [hb.cell (by exact hg)]; exact hc i hi⟩

section
variable {H : Type} {enc : TypeId × Value → H} {W : World} {base : Nat} {spare : Nat → Bool} {held : Bool}

theorem k_bytes_u64 : Tryz.prog.bytesOf 26 = 8 := by kernel_rfl

theorem weightsAll_mem {P : Program} {e : TypeId} : ∀ {l : List (DataW H)} {d : DataW H}, d ∈ l → ∀ k ∈ d.weights P e, k ∈ DataW.weightsAll P e l
  | x :: l, d, hd, k, hk => by
    simp only [DataW.weightsAll, List.mem_append]
    rcases List.mem_cons.1 hd with rfl | h
    · exact .inl hk
    · exact .inr (weightsAll_mem h k hk)

theorem words_of {fuel : Nat} {po : Option Addr} {pl pc : Nat} {x : DataW H × List MemPlace} (h : DataW.trod enc Tryz.prog W base spare held fuel 29 [.slice po pl pc] = some x) : (∃ ps, WdV W po pl ps) ∧ (pl = 0 ∨ ∃ k ∈ x.1.weights Tryz.prog 29, pl * 8 ≤ k) := by
  rcases open_slice Tryz.underlying29 h with ⟨h0, hx⟩ | ⟨a, len, cap, m, f, D, Pl, h0, hb, hl, hm, hmm, hx, hall⟩
  · simp at h0
    obtain ⟨rfl, rfl, rfl⟩ := h0
    exact ⟨⟨fun _ => 0, fun i hi => by omega, .inl rfl⟩, .inl rfl⟩
  · simp at h0
    obtain ⟨rfl, rfl, rfl⟩ := h0
    have hmn : pl ≤ m := by rw [hmm]; split <;> omega
    rw [k_cells_u64] at hall
    have hop : ∀ i, i < pl → ∃ t : Nat, W.cell? (a.add (i * 1)) = some (.int .u64 (t : Int)) ∧ t < 18446744073709551616 := by
      intro i hi
      obtain ⟨cs', h1, h2⟩ := hall i (by omega)
      obtain ⟨-, hlen, hc⟩ := World.cells?_some h1
      obtain ⟨p, e0, _, w0⟩ := DataW.trod_int Tryz.underlying26 h2
      obtain ⟨l, rfl, hl⟩ := u64_wf w0
      have := hc 0 (by omega)
      rw [e0] at this
      simp [Addr.add] at this
      exact ⟨l, by simpa [Addr.add] using this, hl⟩
    obtain ⟨F, hF⟩ := choose_lt (α := Nat) hop
    subst hx
    refine ⟨⟨F, fun i hi => (hF i hi).2, ?_⟩, .inr ⟨(pl + (m - pl)) * Tryz.prog.bytesOf 26, by simp [DataW.weights, Tryz.underlying29], by rw [k_bytes_u64]; omega⟩⟩
    by_cases hn : pl = 0
    · exact .inl hn
    · right
      obtain ⟨g, off, spot⟩ := a
      have h00 := (hF 0 (by omega)).1
      have hspot : spot = none := by simpa [Addr.add] using World.cell?_spot h00
      subst hspot
      have ea : ∀ j, (Addr.mk g off none).add j = ⟨g, off + j, none⟩ := fun j => by
        by_cases hj : j = 0
        · subst hj; simp [Addr.add]
        · simp [Addr.add, hj]
      refine ⟨g, off, rfl, ?_, fun i hi => ?_⟩
      · have := World.block_lt_of_cell? W _ h00
        rw [ea] at this
        exact this
      · have := (hF i hi).1
        rwa [Nat.mul_one, ea] at this

theorem op_words {fuel : Nat} {a0 a1 a2 a3 a4 a5 a6 a7 : Value} {po : Option Addr} {pl pc : Nat} {x : DataW H × List MemPlace} (h : DataW.trod enc Tryz.prog W base spare held fuel 31 [a0, a1, a2, a3, a4, a5, a6, a7, .slice po pl pc] = some x) : (∃ ps, WdV W po pl ps) ∧ (pl = 0 ∨ ∃ k ∈ x.1.weights Tryz.prog 31, pl * 8 ≤ k) := by
  obtain ⟨xs, n, _, hxx, hl, hlen, hf⟩ := DataW.trod_struct Tryz.underlying31 h
  have hlen7 : xs.length = 7 := hlen
  obtain ⟨y6, g6⟩ : ∃ y, xs[6]? = some y := ⟨xs[6]'(by rw [hlen7]; omega), List.getElem?_eq_getElem (by rw [hlen7]; omega)⟩
  have f6 : DataW.trod enc Tryz.prog W base spare held n 29 (List.take (Tryz.prog.cellsOf 29) (List.drop 8 [a0, a1, a2, a3, a4, a5, a6, a7, .slice po pl pc])) = some y6 := (hf 6 _ rfl).trans g6
  rw [k_cells_p] at f6
  obtain ⟨hw, hk⟩ := words_of (show DataW.trod enc Tryz.prog W base spare held n 29 [.slice po pl pc] = some y6 from f6)
  refine ⟨hw, hk.imp id ?_⟩
  rintro ⟨k, hk, hle⟩
  refine ⟨k, ?_, hle⟩
  subst hxx
  simp only [DataW.weights, Tryz.underlying31]
  exact DataW.weights_mem_each (j := 6) (t := 29) (d := y6.1) rfl (by rw [List.getElem?_map, g6]; rfl) k hk

theorem script_words {fuel : Nat} {g off n c : Nat} {d : DataW H} {ps : List MemPlace} (h : DataW.trod enc Tryz.prog W base spare held fuel 22 (Value.slice (some ⟨g, off, none⟩) n c).cells.toList = some (d, ps)) {i : Nat} (hi : i < n) {po : Option Addr} {pl pc : Nat} (h8 : W.cell? ⟨g, off + i * 9 + 8, none⟩ = some (.slice po pl pc)) : (∃ q, WdV W po pl q) ∧ (pl = 0 ∨ ∃ k ∈ d.weights Tryz.prog 22, pl * 8 ≤ k) := by
  have hcs : (Value.slice (some ⟨g, off, none⟩) n c).cells.toList = [.slice (some ⟨g, off, none⟩) n c] := rfl
  rw [hcs] at h
  rcases open_slice Tryz.underlying22 h with ⟨h0, hx⟩ | ⟨a, len, cap, m, f, D, Pl, h0, hb, hl, hm, hmm, hx, hall⟩
  · simp at h0
  · simp at h0
    obtain ⟨rfl, rfl, rfl⟩ := h0
    have hmn : n ≤ m := by rw [hmm]; split <;> omega
    rw [k_cellsOp] at hall
    obtain ⟨cs', h1, h2⟩ := hall i (by omega)
    obtain ⟨-, -, hc⟩ := World.cells?_some h1
    obtain ⟨k, a', b', s, xl, xh, yl, yh, po', pl', pc', rfl, -⟩ := op_cells h2
    have e8 := hc 8 (by omega)
    have ea : ∀ j, (Addr.mk g off none).add j = ⟨g, off + j, none⟩ := fun j => by
      by_cases hj : j = 0
      · subst hj; simp [Addr.add]
      · simp [Addr.add, hj]
    have ea2 : ∀ i j, ((Addr.mk g off none).add i).add j = ⟨g, off + i + j, none⟩ := fun i j => by
      rw [ea]
      by_cases hj : j = 0
      · subst hj; simp [Addr.add]
      · simp [Addr.add, hj]
    rw [ea2] at e8
    rw [h8] at e8
    simp at e8
    obtain ⟨rfl, rfl, rfl⟩ := e8
    obtain ⟨hw, hk⟩ := op_words h2
    refine ⟨hw, hk.imp id ?_⟩
    rintro ⟨k', hk', hle⟩
    refine ⟨k', ?_, hle⟩
    have hd : d = .slice ((List.range n).map D) ((List.range (m - n)).map fun j => D (n + j)) := (Prod.mk.inj hx).1
    subst hd
    simp only [DataW.weights, Tryz.underlying22]
    exact List.mem_cons_of_mem _ (List.mem_append_left _ (weightsAll_mem (List.mem_map.2 ⟨i, List.mem_range.2 hi, rfl⟩) k' hk'))
end
end Go.Proofs.YtonhpkigoplmaaaGreatDoor
namespace Go.Proofs.YtonhpkigoplmaaaGreatDoor
open Go.RowKit Go.Extern

end Go.Proofs.YtonhpkigoplmaaaGreatDoor
namespace Go.Proofs.YtonhpkigoplmaaaGreatDoor
open Go.RowKit Go.Extern

attribute [local go_sem] run_store_float
end Go.Proofs.YtonhpkigoplmaaaGreatDoor
namespace Go.Proofs.YtonhpkigoplmaaaGreatDoor
open Go.RowKit

end Go.Proofs.YtonhpkigoplmaaaGreatDoor
namespace Go.Proofs.YtonhpkigoplmaaaGreatDoor
open Go.RowKit Go.Extern Ieee
attribute [local go_sem] run_store_float

end Go.Proofs.YtonhpkigoplmaaaGreatDoor
namespace Go.Proofs.YtonhpkigoplmaaaGreatDoor
open Go.RowKit Go.Extern Ieee
attribute [local go_sem] run_store_float

end Go.Proofs.YtonhpkigoplmaaaGreatDoor
namespace Go.Proofs.YtonhpkigoplmaaaGreatDoor
open Go.RowKit Go.Extern Ieee

end Go.Proofs.YtonhpkigoplmaaaGreatDoor
namespace Go.Proofs.YtonhpkigoplmaaaGreatDoor
open Go.RowKit Go.Extern
attribute [local go_sem] run_store_float

end Go.Proofs.YtonhpkigoplmaaaGreatDoor
namespace Go.Proofs.YtonhpkigoplmaaaGreatDoor
open Go.RowKit

theorem hid {p : Prop} (h : p) : Hid p := h

end Go.Proofs.YtonhpkigoplmaaaGreatDoor
namespace Go.Proofs.YtonhpkigoplmaaaGreatDoor
open Go.RowKit


end Go.Proofs.YtonhpkigoplmaaaGreatDoor
namespace Go.Proofs.YtonhpkigoplmaaaGreatDoor
open Go.RowKit

/-- Boxes as cells. -/
def bvs : List (Nat × Nat) → List Value
  | [] => []
  | p :: l => .int .u64 (p.1 : Int) :: .int .u64 (p.2 : Int) :: bvs l

theorem bvs_append : ∀ a b : List (Nat × Nat), bvs (a ++ b) = bvs a ++ bvs b
  | [], b => rfl
  | p :: a, b => by rw [List.cons_append]; show _ :: _ :: bvs (a ++ b) = _; rw [bvs_append a b]; rfl

theorem infoBox : (Tryz.prog.info? 28).map (fun i => (i.zero, i.size, i.bytes)) = some (some (.agg #[.int .u64 0, .int .u64 0]), 2, 16) := by kernel_rfl

theorem ownsRow_mono {W W' : World} {B B' T k : Nat} {v : Value} {n : Nat} {xs : List Value} (h : W.ownsRow B T k v n xs) (hb : Below W.heap.size W W') (hB : B' ≤ B) : W'.ownsRow B' T k v n xs :=
  ⟨h.1, h.2.imp id (fun ⟨g, cap, cur, e, hg, hh, r⟩ => ⟨g, cap, cur, e, Nat.le_trans hB hg, blk_below hh hb, r⟩)⟩

end Go.Proofs.YtonhpkigoplmaaaGreatDoor
namespace Go.Proofs.YtonhpkigoplmaaaGreatDoor
open Go.RowKit

/-- Boxes as they lie in memory. -/
def BxV (W : World) (ao : Option Addr) (n : Nat) (xs : Nat → Nat × Nat) : Prop :=
  n = 0 ∨ ∃ g off, ao = some ⟨g, off, none⟩ ∧ g < W.heap.size ∧ ∀ i, i < n → W.cell? ⟨g, off + i * 2, none⟩ = some (.int .u64 ((xs i).1 : Int)) ∧ W.cell? ⟨g, off + i * 2 + 1, none⟩ = some (.int .u64 ((xs i).2 : Int))

theorem BxV.below {W W' : World} {ao : Option Addr} {n : Nat} {xs : Nat → Nat × Nat} (h : BxV W ao n xs) (hb : Below W.heap.size W W') : BxV W' ao n xs := by
  rcases h with h0 | ⟨g, off, e, hg, hc⟩
  · exact .inl h0
  · exact .inr ⟨g, off, e, Nat.lt_of_lt_of_le hg hb.size, fun i hi => by rw [hb.cell (by exact hg), hb.cell (by exact hg)]; exact hc i hi⟩

theorem bvs_get : ∀ (l : List (Nat × Nat)) (i : Nat), i < l.length → (bvs l)[i * 2]? = some (.int .u64 ((l.getD i (0, 0)).1 : Int)) ∧ (bvs l)[i * 2 + 1]? = some (.int .u64 ((l.getD i (0, 0)).2 : Int))
  | [], i, h => by simp at h
  | p :: l, 0, _ => ⟨rfl, rfl⟩
  | p :: l, i + 1, h => by
    have := bvs_get l i (by simp at h; omega)
    rw [show (i + 1) * 2 = i * 2 + 1 + 1 by omega, show i * 2 + 1 + 1 + 1 = (i * 2 + 1) + 1 + 1 by omega]
    exact this

theorem BxV.of_owns {w : World} {v : Value} {B T : Nat} (l : List (Nat × Nat)) (h : w.ownsRow B T 2 v l.length (bvs l)) : ∃ ao c, v = .slice ao l.length c ∧ l.length ≤ c ∧ BxV w ao l.length (fun i => l.getD i (0, 0)) := by
  obtain ⟨_, h2⟩ := h
  rcases h2 with ⟨rfl, h0⟩ | ⟨g, cap, cur, rfl, hg, hh, hn, hcap, hs, ht⟩
  · rw [h0]; exact ⟨none, 0, rfl, Nat.le_refl _, .inl rfl⟩
  · refine ⟨_, _, rfl, hn, .inr ⟨g, 0, rfl, (Array.getElem?_eq_some_iff.1 hh).1, fun i hi => ?_⟩⟩
    have hb := bvs_get l i hi
    rw [← ht, List.getElem?_take, List.getElem?_take, if_pos (by omega), if_pos (by omega), Array.getElem?_toList, Array.getElem?_toList] at hb
    rw [cell_of_cur hh, cell_of_cur hh, Nat.zero_add]
    exact hb

set_option maxHeartbeats 4000000 in
set_option maxRecDepth 100000 in
theorem listed_any (lo mo : Option Addr) (k j lc mc : Nat) (xs ys : Nat → Nat × Nat) (m : Int) (w : World) (hx : BxV w lo k xs) (hy : BxV w mo j ys) (hj : j ≤ mc) (hjm : j ≤ 1000) (hk1 : 0 < m → m < (j : Int) → (k : Int) = m) (hk2 : ¬ (0 < m ∧ m < (j : Int)) → k = j) (hxy : ∀ i, i < k → xs i = ys i) :
    Calls Tryz.prog 38 #[.slice lo k lc, .slice mo j mc, .int .i64 m] w fun e w' => e = .returned (.bool true) ∧ Below w.heap.size w w' := by
  have HX := hid hx
  have HY := hid hy
  have HE := hid hxy
  have HK1 := hid hk1
  have HK2 := hid hk2
  have hmw : Hid (mc = mc) := rfl
  clear hx hy hxy hk1 hk2
  by_cases hm : 0 < m
  · by_cases hmj : m < (j : Int)
    · have hkm : (k : Int) = m := HK1.out hm hmj
      obtain ⟨g2, o2, rfl, hg2, hc2⟩ := HY.out.resolve_left (by omega)
      have HC2 := hid hc2
      have HG2 := hid hg2
      have hmc : m ≤ (mc : Int) := by omega
      have hmt : Hid (m.toNat = k) := by show m.toNat = k; omega
      clear HY hc2 hg2 HK1 HK2
      subst hkm
      go_enter Tryz.func38, Tryz.ntmps38
      go_wp2_with fail
      go_loopw [7, 8] (fun v _ wr => ∃ i : Nat, i ≤ k ∧ v = .int .i64 (i : Int) ∧ Below w.heap.size w wr) (fun v _ _ => k - (intOf v).toNat)
      case atStart => exact ⟨0, Nat.zero_le _, rfl, Below.refl _ _⟩
      case round =>
        obtain ⟨i, hi1, rfl, hb⟩ := hrel
        by_cases hin : i < k
        · obtain ⟨g1, o1, rfl, hg1, hc1⟩ := HX.out.resolve_left (by omega)
          have a1 := (hc1 i hin).1
          have a2 := (hc1 i hin).2
          have a3 := (HC2.out i (by omega)).1
          have a4 := (HC2.out i (by omega)).2
          rw [HE.out i hin] at a1 a2
          have hbk : Hid (Below w.heap.size w wr) := hb
          have CF : Hid (∀ W, Below wr.heap.size wr W → W.cell? ⟨g1, o1 + i * 2, none⟩ = some (.int .u64 ((ys i).1 : Int)) ∧ W.cell? ⟨g1, o1 + i * 2 + 1, none⟩ = some (.int .u64 ((ys i).2 : Int)) ∧ W.cell? ⟨g2, o2 + i * 2, none⟩ = some (.int .u64 ((ys i).1 : Int)) ∧ W.cell? ⟨g2, o2 + i * 2 + 1, none⟩ = some (.int .u64 ((ys i).2 : Int))) := by
            intro W hW
            have hB : Below w.heap.size w W := hb.trans (hW.mono hb.size)
            have hg2 := HG2.out
            exact ⟨(hB.cell (by exact hg1)).trans a1, (hB.cell (by exact hg1)).trans a2, (hB.cell (by exact hg2)).trans a3, (hB.cell (by exact hg2)).trans a4⟩
          clear a1 a2 a3 a4 hc1 hg1 HC2 HG2 HX HE hb
          generalize (ys i).1 = y1 at *
          generalize (ys i).2 = y2 at *
          have CD := hid (CF.out wr.drew ((Below.refl _ _).drew))
          obtain ⟨a1, a2, a3, a4⟩ := CF.out wr (Below.refl _ _)
          go_wp2_with fail
          go_region_held3 (fun W => W.cell? ⟨g1, o1 + i * 2, none⟩ = some (.int .u64 (y1 : Int)) ∧ W.cell? ⟨g1, o1 + i * 2 + 1, none⟩ = some (.int .u64 (y2 : Int)) ∧ W.cell? ⟨g2, o2 + i * 2, none⟩ = some (.int .u64 (y1 : Int)) ∧ W.cell? ⟨g2, o2 + i * 2 + 1, none⟩ = some (.int .u64 (y2 : Int))) (first | with_reducible exact CD.out | with_reducible exact CF.out _ hb6.out)
            (first
              | (go_at_call 28; refine (same_eq _ _ _).mono ?_; rintro e w4 ⟨rfl, hb4⟩
                 have hb5 : Hid (Below w.heap.size w w4) := (hbk.out.drew).trans (hb4.mono hbk.out.size)
                 have hb6 : Hid (Below wr.heap.size wr w4) := ((Below.refl _ wr).drew).trans hb4
                 clear hb4))
          all_goals (clear a1 a2 a3 a4 CF CD hbk; go_wp2; go_roundw)
          case rel => exact ⟨i + 1, by omega, by go_num, hb5.out⟩
          case measure => simp [intOf]; omega
        · clear HX HE
          go_wp2
          go_ret
          exact ⟨rfl, hb⟩
    · have hkj : k = j := HK2.out (fun h => hmj h.2)
      subst hkj
      clear HK1 HK2
      go_enter Tryz.func38, Tryz.ntmps38
      go_wp2_with fail
      go_loopw [7, 8] (fun v _ wr => ∃ i : Nat, i ≤ k ∧ v = .int .i64 (i : Int) ∧ Below w.heap.size w wr) (fun v _ _ => k - (intOf v).toNat)
      case atStart => exact ⟨0, Nat.zero_le _, rfl, Below.refl _ _⟩
      case round =>
        obtain ⟨i, hi1, rfl, hb⟩ := hrel
        by_cases hin : i < k
        · obtain ⟨g1, o1, rfl, hg1, hc1⟩ := HX.out.resolve_left (by omega)
          obtain ⟨g2, o2, rfl, hg2, hc2⟩ := HY.out.resolve_left (by omega)
          have HC2 := hid hc2
          have HG2 := hid hg2
          clear HY hc2 hg2
          have a1 := (hc1 i hin).1
          have a2 := (hc1 i hin).2
          have a3 := (HC2.out i (by omega)).1
          have a4 := (HC2.out i (by omega)).2
          rw [HE.out i hin] at a1 a2
          have hbk : Hid (Below w.heap.size w wr) := hb
          have CF : Hid (∀ W, Below wr.heap.size wr W → W.cell? ⟨g1, o1 + i * 2, none⟩ = some (.int .u64 ((ys i).1 : Int)) ∧ W.cell? ⟨g1, o1 + i * 2 + 1, none⟩ = some (.int .u64 ((ys i).2 : Int)) ∧ W.cell? ⟨g2, o2 + i * 2, none⟩ = some (.int .u64 ((ys i).1 : Int)) ∧ W.cell? ⟨g2, o2 + i * 2 + 1, none⟩ = some (.int .u64 ((ys i).2 : Int))) := by
            intro W hW
            have hB : Below w.heap.size w W := hb.trans (hW.mono hb.size)
            have hg2 := HG2.out
            exact ⟨(hB.cell (by exact hg1)).trans a1, (hB.cell (by exact hg1)).trans a2, (hB.cell (by exact hg2)).trans a3, (hB.cell (by exact hg2)).trans a4⟩
          clear a1 a2 a3 a4 hc1 hg1 HC2 HG2 HX HE hb
          generalize (ys i).1 = y1 at *
          generalize (ys i).2 = y2 at *
          have CD := hid (CF.out wr.drew ((Below.refl _ _).drew))
          obtain ⟨a1, a2, a3, a4⟩ := CF.out wr (Below.refl _ _)
          go_wp2_with fail
          go_region_held3 (fun W => W.cell? ⟨g1, o1 + i * 2, none⟩ = some (.int .u64 (y1 : Int)) ∧ W.cell? ⟨g1, o1 + i * 2 + 1, none⟩ = some (.int .u64 (y2 : Int)) ∧ W.cell? ⟨g2, o2 + i * 2, none⟩ = some (.int .u64 (y1 : Int)) ∧ W.cell? ⟨g2, o2 + i * 2 + 1, none⟩ = some (.int .u64 (y2 : Int))) (first | with_reducible exact CD.out | with_reducible exact CF.out _ hb6.out)
            (first
              | (go_at_call 28; refine (same_eq _ _ _).mono ?_; rintro e w4 ⟨rfl, hb4⟩
                 have hb5 : Hid (Below w.heap.size w w4) := (hbk.out.drew).trans (hb4.mono hbk.out.size)
                 have hb6 : Hid (Below wr.heap.size wr w4) := ((Below.refl _ wr).drew).trans hb4
                 clear hb4))
          all_goals (clear a1 a2 a3 a4 CF CD hbk; go_wp2; go_roundw)
          case rel => exact ⟨i + 1, by omega, by go_num, hb5.out⟩
          case measure => simp [intOf]; omega
        · clear HX HE
          go_wp2
          go_ret
          exact ⟨rfl, hb⟩
  · have hkj : k = j := HK2.out (fun h => hm h.1)
    subst hkj
    clear HK1 HK2
    go_enter Tryz.func38, Tryz.ntmps38
    go_wp2_with fail
    go_loopw [7, 8] (fun v _ wr => ∃ i : Nat, i ≤ k ∧ v = .int .i64 (i : Int) ∧ Below w.heap.size w wr) (fun v _ _ => k - (intOf v).toNat)
    case atStart => exact ⟨0, Nat.zero_le _, rfl, Below.refl _ _⟩
    case round =>
      obtain ⟨i, hi1, rfl, hb⟩ := hrel
      by_cases hin : i < k
      · obtain ⟨g1, o1, rfl, hg1, hc1⟩ := HX.out.resolve_left (by omega)
        obtain ⟨g2, o2, rfl, hg2, hc2⟩ := HY.out.resolve_left (by omega)
        have HC2 := hid hc2
        have HG2 := hid hg2
        clear HY hc2 hg2
        have a1 := (hc1 i hin).1
        have a2 := (hc1 i hin).2
        have a3 := (HC2.out i (by omega)).1
        have a4 := (HC2.out i (by omega)).2
        rw [HE.out i hin] at a1 a2
        have hbk : Hid (Below w.heap.size w wr) := hb
        have CF : Hid (∀ W, Below wr.heap.size wr W → W.cell? ⟨g1, o1 + i * 2, none⟩ = some (.int .u64 ((ys i).1 : Int)) ∧ W.cell? ⟨g1, o1 + i * 2 + 1, none⟩ = some (.int .u64 ((ys i).2 : Int)) ∧ W.cell? ⟨g2, o2 + i * 2, none⟩ = some (.int .u64 ((ys i).1 : Int)) ∧ W.cell? ⟨g2, o2 + i * 2 + 1, none⟩ = some (.int .u64 ((ys i).2 : Int))) := by
          intro W hW
          have hB : Below w.heap.size w W := hb.trans (hW.mono hb.size)
          have hg2 := HG2.out
          exact ⟨(hB.cell (by exact hg1)).trans a1, (hB.cell (by exact hg1)).trans a2, (hB.cell (by exact hg2)).trans a3, (hB.cell (by exact hg2)).trans a4⟩
        clear a1 a2 a3 a4 hc1 hg1 HC2 HG2 HX HE hb
        generalize (ys i).1 = y1 at *
        generalize (ys i).2 = y2 at *
        have CD := hid (CF.out wr.drew ((Below.refl _ _).drew))
        obtain ⟨a1, a2, a3, a4⟩ := CF.out wr (Below.refl _ _)
        go_wp2_with fail
        go_region_held3 (fun W => W.cell? ⟨g1, o1 + i * 2, none⟩ = some (.int .u64 (y1 : Int)) ∧ W.cell? ⟨g1, o1 + i * 2 + 1, none⟩ = some (.int .u64 (y2 : Int)) ∧ W.cell? ⟨g2, o2 + i * 2, none⟩ = some (.int .u64 (y1 : Int)) ∧ W.cell? ⟨g2, o2 + i * 2 + 1, none⟩ = some (.int .u64 (y2 : Int))) (first | with_reducible exact CD.out | with_reducible exact CF.out _ hb6.out)
          (first
            | (go_at_call 28; refine (same_eq _ _ _).mono ?_; rintro e w4 ⟨rfl, hb4⟩
               have hb5 : Hid (Below w.heap.size w w4) := (hbk.out.drew).trans (hb4.mono hbk.out.size)
               have hb6 : Hid (Below wr.heap.size wr w4) := ((Below.refl _ wr).drew).trans hb4
               clear hb4))
        all_goals (clear a1 a2 a3 a4 CF CD hbk; go_wp2; go_roundw)
        case rel => exact ⟨i + 1, by omega, by go_num, hb5.out⟩
        case measure => simp [intOf]; omega
      · clear HX HE
        go_wp2
        go_ret
        exact ⟨rfl, hb⟩
end Go.Proofs.YtonhpkigoplmaaaGreatDoor
namespace Go.Proofs.YtonhpkigoplmaaaGreatDoor
open Go.RowKit Go.Extern Ieee

theorem less_val (x y : Bool × Nat × Int) : lessT x y = true ↔ valQ x < valQ y := by
  have hx := means_low2 x (e := min x.2.2 y.2.2) (by omega)
  have hy := means_low2 y (e := min x.2.2 y.2.2) (by omega)
  rw [lessT_means hx hy, val_means hx, val_means hy]
  have p := pw_pos (min x.2.2 y.2.2)
  generalize sg x.1 (x.2.1 * 2 ^ (x.2.2 - min x.2.2 y.2.2).toNat) = a
  generalize sg y.1 (y.2.1 * 2 ^ (y.2.2 - min x.2.2 y.2.2).toNat) = b
  generalize pw (min x.2.2 y.2.2) = c at *
  constructor
  · intro h
    exact Rat.mul_lt_mul_of_pos_right (Rat.intCast_lt_intCast.2 h) p
  · intro h
    apply Decidable.byContradiction
    intro hc
    have h1 : (b : Rat) ≤ (a : Rat) := Rat.intCast_le_intCast.2 (by omega)
    have h2 := mul_le_r (Rat.le_of_lt p) h1
    grind

/-- The amount of a number. -/
def amtT (x : Bool × Nat × Int) : Bool × Nat × Int := (false, x.2.1, x.2.2)
theorem val_amt (x : Bool × Nat × Int) : valQ (amtT x) = ab (valQ x) := by
  obtain ⟨s, n, e⟩ := x
  unfold amtT valQ
  simp only
  have p := pw_pos e
  have hn : (0 : Rat) ≤ (n : Rat) := Rat.natCast_nonneg
  have h := mul_le_r (Rat.le_of_lt p) hn
  cases s
  · have e1 : ((sg false n : Int) : Rat) = (n : Rat) := by unfold sg; simp [Rat.intCast_natCast]
    rw [e1]
    rcases ab_cases ((n : Rat) * pw e) with ⟨_, q⟩ | ⟨_, q⟩ <;> grind
  · have e1 : ((sg false n : Int) : Rat) = (n : Rat) := by unfold sg; simp [Rat.intCast_natCast]
    have e2 : ((sg true n : Int) : Rat) = -(n : Rat) := by unfold sg; simp [Rat.intCast_natCast, Rat.intCast_neg]
    rw [e1, e2]
    rcases ab_cases (-(n : Rat) * pw e) with ⟨_, q⟩ | ⟨_, q⟩ <;> grind

/-- An end that is 0, or of an amount from 2^-30 to 2^30. -/
def fairT (x : Bool × Nat × Int) : Bool := decide (valQ x = 0) || (decide (pw (-30) ≤ ab (valQ x)) && decide (ab (valQ x) ≤ pw 30))

/-- A number with an exponent of at most E, and under 2^M. -/
structure Bq (E M : Nat) (x : Bool × Nat × Int) : Prop where
  l : -(E : Int) ≤ x.2.2
  u : x.2.2 ≤ (E : Int)
  t : (bl x.2.1 : Int) + x.2.2 ≤ (M : Int)
theorem Bq.sm {E M : Nat} {x : Bool × Nat × Int} (h : Bq E M x) (hE : E ≤ 5000) (hM : M ≤ 5000) : Sm x := ⟨by have := h.l; have := h.t; omega, by have := h.l; omega, by have := h.u; omega⟩
theorem Bq.mono {E M E' M' : Nat} {x : Bool × Nat × Int} (h : Bq E M x) (hE : E ≤ E') (hM : M ≤ M') : Bq E' M' x := ⟨by have := h.l; omega, by have := h.u; omega, by have := h.t; omega⟩
theorem Bq.neg {E M : Nat} {x : Bool × Nat × Int} (h : Bq E M x) : Bq E M (negT x) := ⟨h.l, h.u, h.t⟩
theorem Bq.amt {E M : Nat} {x : Bool × Nat × Int} (h : Bq E M x) : Bq E M (amtT x) := ⟨h.l, h.u, h.t⟩
theorem Bq.zero (E M : Nat) : Bq E M (false, 0, 0) := ⟨by simp only; omega, by simp only; omega, by simp only; rw [bl_zero2]; omega⟩
theorem Bq.prod {E M F N : Nat} {x y : Bool × Nat × Int} (hx : Bq E M x) (hy : Bq F N y) : Bq (E + F) (M + N) (prodN x y) := by
  have := bl_mul2 x.2.1 y.2.1
  have := hx.l; have := hx.u; have := hx.t; have := hy.l; have := hy.u; have := hy.t
  unfold prodN
  exact ⟨by simp only; omega, by simp only; omega, by simp only; omega⟩
theorem Bq.sum {E M : Nat} {x y : Bool × Nat × Int} (hx : Bq E M x) (hy : Bq E M y) : Bq E (M + 1) (sumT x y) := by
  obtain ⟨s, n, e⟩ := x
  obtain ⟨t, m, f⟩ := y
  have l1 := hx.l; have u1 := hx.u; have t1 := hx.t; have l2 := hy.l; have u2 := hy.u; have t2 := hy.t
  simp only at l1 l2 u1 u2 t1 t2
  have a1 : bl (lvA n e f) ≤ ((M : Int) - min e f).toNat := by
    have := bl_shift2 n (e - min e f).toNat
    unfold lvA; omega
  have a2 : bl (lvB m e f) ≤ ((M : Int) - min e f).toNat := by
    have := bl_shift2 m (f - min e f).toNat
    unfold lvB; omega
  have a3 := bl_add2 a1 a2
  have a4 := bl_mono2 (Nat.sub_le (lvA n e f) (lvB m e f))
  have a5 := bl_mono2 (Nat.sub_le (lvB m e f) (lvA n e f))
  have a6 : min e f ≤ (M : Int) := by omega
  show Bq E (M + 1) (sumN s n e t m f)
  unfold sumN
  split
  · exact ⟨by simp only; omega, by simp only; omega, by simp only; omega⟩
  · split
    · exact Bq.zero _ _
    · split
      · exact ⟨by simp only; omega, by simp only; omega, by simp only; omega⟩
      · exact ⟨by simp only; omega, by simp only; omega, by simp only; omega⟩
theorem Pl.bq {x : Bool × Nat × Int} (h : Pl x) : Bq 952 952 x := ⟨by have := h.l; omega, by have := h.u; omega, by have := h.bits; have := h.u; omega⟩
/-- The cells of n numbers, whose digits lie in the slices u. -/
def nvs (q : Nat → Bool × Nat × Int) (u : Nat → Value) (n : Nat) : List Value := (List.range (n * 3)).map fun j => if j % 3 = 0 then .bool (q (j / 3)).1 else if j % 3 = 1 then u (j / 3) else .int .i64 (q (j / 3)).2.2

theorem nvs_get (q : Nat → Bool × Nat × Int) (u : Nat → Value) {n j : Nat} (h : j < n) : (nvs q u n)[j * 3]? = some (.bool (q j).1) ∧ (nvs q u n)[j * 3 + 1]? = some (u j) ∧ (nvs q u n)[j * 3 + 2]? = some (.int .i64 (q j).2.2) := by
  unfold nvs
  have h1 : j * 3 % 3 = 0 := by omega
  have h2 : j * 3 / 3 = j := by omega
  have h3 : (j * 3 + 1) % 3 = 1 := by omega
  have h4 : (j * 3 + 1) / 3 = j := by omega
  have h5 : (j * 3 + 2) % 3 = 2 := by omega
  have h6 : (j * 3 + 2) / 3 = j := by omega
  refine ⟨?_, ?_, ?_⟩
  · rw [List.getElem?_map, List.getElem?_range (by omega)]; simp [h1, h2]
  · rw [List.getElem?_map, List.getElem?_range (by omega)]; simp [h3, h4]
  · rw [List.getElem?_map, List.getElem?_range (by omega)]; simp [h5, h6]
theorem nvs_push (q : Nat → Bool × Nat × Int) (u : Nat → Value) (n : Nat) : nvs q u (n + 1) = nvs q u n ++ [.bool (q n).1, u n, .int .i64 (q n).2.2] := by
  unfold nvs
  rw [show (n + 1) * 3 = n * 3 + 1 + 1 + 1 by omega, List.range_succ, List.range_succ, List.range_succ]
  have h1 : n * 3 % 3 = 0 := by omega
  have h2 : n * 3 / 3 = n := by omega
  have h3 : (n * 3 + 1) % 3 = 1 := by omega
  have h4 : (n * 3 + 1) / 3 = n := by omega
  have h5 : (n * 3 + 1 + 1) % 3 = 2 := by omega
  have h6 : (n * 3 + 1 + 1) / 3 = n := by omega
  simp [h1, h2, h3, h4, h5, h6]
theorem nvs_congr {q q' : Nat → Bool × Nat × Int} {u u' : Nat → Value} {n : Nat} (h : ∀ j, j < n → q j = q' j) (h' : ∀ j, j < n → u j = u' j) : nvs q u n = nvs q' u' n := by
  unfold nvs
  refine List.map_congr_left fun j hj => ?_
  have := List.mem_range.1 hj
  rw [h (j / 3) (by omega), h' (j / 3) (by omega)]

/-- A number's digits, in a slice. -/
def NSl (W : World) (u : Value) (n : Nat) : Prop := ∃ o l c, u = .slice o l c ∧ l = (digits n).length ∧ NatV W (.slice o l c) n
theorem NSl.below {W W' : World} {u : Value} {n : Nat} (h : NSl W u n) (hb : Below W.heap.size W W') : NSl W' u n := by
  obtain ⟨o, l, c, h1, h2, h3⟩ := h
  exact ⟨o, l, c, h1, h2, h3.below hb (Nat.le_refl _)⟩

/-- A row that is being built: n numbers. -/
structure NBl (b : Nat) (W : World) (v : Value) (n : Nat) (q : Nat → Bool × Nat × Int) (u : Nat → Value) : Prop where
  own : W.ownsRow b 92 3 v n (nvs q u n)
  nat : ∀ j, j < n → NSl W (u j) (q j).2.1

/-- n numbers in memory. -/
def NRow (W : World) (v : Value) (n : Nat) (q : Nat → Bool × Nat × Int) : Prop := ∃ ao c, v = .slice ao n c ∧ (n = 0 ∨ ∃ g cur, ao = some ⟨g, 0, none⟩ ∧ W.heap[g]? = some (.cells cur 92 (0, 0)) ∧ ∀ j, j < n → ∃ o l c, cur[j * 3]? = some (.bool (q j).1) ∧ cur[j * 3 + 1]? = some (.slice o l c) ∧ cur[j * 3 + 2]? = some (.int .i64 (q j).2.2) ∧ l = (digits (q j).2.1).length ∧ NatV W (.slice o l c) (q j).2.1)

theorem NRow.below {W W' : World} {v : Value} {n : Nat} {q : Nat → Bool × Nat × Int} (h : NRow W v n q) (hb : Below W.heap.size W W') : NRow W' v n q := by
  obtain ⟨ao, c, e, h⟩ := h
  refine ⟨ao, c, e, ?_⟩
  rcases h with h | ⟨g, cur, e2, hg, h⟩
  · exact .inl h
  · refine .inr ⟨g, cur, e2, blk_below hg hb, fun j hj => ?_⟩
    obtain ⟨o, l, c, a1, a2, a3, a4, a5⟩ := h j hj
    exact ⟨o, l, c, a1, a2, a3, a4, a5.below hb (Nat.le_refl _)⟩
/-- A list of other things grows: the numbers stay. -/
theorem NRow.grown {W W' : World} {v u : Value} {n b s m : Nat} {T : TypeId} {xs : List Value} {q : Nat → Bool × Nat × Int} (h : NRow W v n q) (ho : W.ownsRow b T s u m xs) (hg : W.grownBy W' u.ownBlock) (t1 : T ≠ 92) (t2 : T ≠ 3) : NRow W' v n q := by
  have key : ∀ (g : Nat) (cur : Array Value) (T' : TypeId), T ≠ T' → W.heap[g]? = some (.cells cur T' (0, 0)) → W'.heap[g]? = some (.cells cur T' (0, 0)) := by
    intro g cur T' ht hh
    rw [hg.block g (lt_of_row hh) ?_]
    · exact hh
    · intro hu
      obtain ⟨-, ⟨rfl, -⟩ | ⟨g', c, cur', rfl, -, k1, -⟩⟩ := ho
      · simp [Value.ownBlock] at hu
      · simp [Value.ownBlock] at hu
        subst hu
        rw [k1] at hh
        cases hh
        exact ht rfl
  obtain ⟨ao, c, e, h⟩ := h
  refine ⟨ao, c, e, ?_⟩
  rcases h with h | ⟨g, cur, e2, hg, h⟩
  · exact .inl h
  · refine .inr ⟨g, cur, e2, key g cur _ t1 hg, fun j hj => ?_⟩
    obtain ⟨o, l, c, a1, a2, a3, a4, a5⟩ := h j hj
    exact ⟨o, l, c, a1, a2, a3, a4, a5.keeps (fun g cur hh => key g cur _ t2 hh)⟩
/-- The number at a place. -/
theorem NRow.at {W : World} {n c : Nat} {ao : Option Addr} {q : Nat → Bool × Nat × Int} (h : NRow W (.slice ao n c) n q) {j : Nat} (hj : j < n) : ∃ g o l c', ao = some ⟨g, 0, none⟩ ∧ g < W.heap.size ∧ W.cell? ⟨g, j * 3, none⟩ = some (.bool (q j).1) ∧ W.cell? ⟨g, j * 3 + 1, none⟩ = some (.slice o l c') ∧ W.cell? ⟨g, j * 3 + 2, none⟩ = some (.int .i64 (q j).2.2) ∧ l = (digits (q j).2.1).length ∧ NatV W (.slice o l c') (q j).2.1 := by
  obtain ⟨ao', c', e, h⟩ := h
  cases e
  obtain ⟨g, cur, e2, hg, h⟩ := h.resolve_left (by omega)
  obtain ⟨o, l, c', a1, a2, a3, a4, a5⟩ := h j hj
  exact ⟨g, o, l, c', e2, lt_of_row hg, by rw [cell_of_cur hg]; exact a1, by rw [cell_of_cur hg]; exact a2, by rw [cell_of_cur hg]; exact a3, a4, a5⟩

theorem NBl.row {b : Nat} {W : World} {v : Value} {n : Nat} {q : Nat → Bool × Nat × Int} {u : Nat → Value} (h : NBl b W v n q u) : NRow W v n q := by
  obtain ⟨⟨-, h1⟩, h2⟩ := h
  rcases h1 with ⟨rfl, h0⟩ | ⟨g, cap, cur, rfl, hb, k1, k2, k3, k4, k5⟩
  · exact ⟨none, 0, by rw [h0], .inl h0⟩
  · refine ⟨_, cap, rfl, .inr ⟨g, cur, rfl, k1, fun j hj => ?_⟩⟩
    obtain ⟨o, l, c, e1, e2, e3⟩ := h2 j hj
    obtain ⟨a1, a2, a3⟩ := nvs_get q u hj
    have key : ∀ i, i < n * 3 → cur[i]? = (nvs q u n)[i]? := fun i hi => by rw [← k5, List.getElem?_take_of_lt hi, Array.getElem?_toList]
    rw [← key _ (by omega)] at a1 a2 a3
    exact ⟨o, l, c, a1, by rw [a2, e1], a3, e2, e3⟩
theorem NBl.nil (b : Nat) (W : World) (q : Nat → Bool × Nat × Int) (u : Nat → Value) : NBl b W (.slice none 0 0) 0 q u := ⟨⟨rfl, .inl ⟨rfl, rfl⟩⟩, fun j hj => by omega⟩
theorem NBl.below {b : Nat} {W W' : World} {v : Value} {n : Nat} {q : Nat → Bool × Nat × Int} {u : Nat → Value} (h : NBl b W v n q u) (hb : Below W.heap.size W W') : NBl b W' v n q u := ⟨ownsRow_mono h.own hb (Nat.le_refl _), fun j hj => (h.nat j hj).below hb⟩

/-- m rows of n numbers, being built. -/
structure NMb (b : Nat) (W : World) (v : Value) (m n : Nat) (hv : Nat → Value) (Q : Nat → Nat → Bool × Nat × Int) : Prop where
  own : W.ownsRow b 103 1 v m ((List.range m).map hv)
  row : ∀ i, i < m → NRow W (hv i) n (Q i)
theorem NMb.nil (b : Nat) (W : World) (n : Nat) (hv : Nat → Value) (Q : Nat → Nat → Bool × Nat × Int) : NMb b W (.slice none 0 0) 0 n hv Q := ⟨⟨rfl, .inl ⟨rfl, rfl⟩⟩, fun j hj => by omega⟩
theorem NMb.below {b : Nat} {W W' : World} {v : Value} {m n : Nat} {hv : Nat → Value} {Q : Nat → Nat → Bool × Nat × Int} (h : NMb b W v m n hv Q) (hb : Below W.heap.size W W') : NMb b W' v m n hv Q := ⟨ownsRow_mono h.own hb (Nat.le_refl _), fun j hj => (h.row j hj).below hb⟩
theorem map_upd2 (hv : Nat → Value) (m : Nat) (x : Value) : (List.range (m + 1)).map (fun i => if i = m then x else hv i) = (List.range m).map hv ++ [x] := by
  rw [List.range_succ, List.map_append]
  congr 1
  · refine List.map_congr_left fun j hj => ?_
    have := List.mem_range.1 hj
    rw [if_neg (by omega)]
  · simp
/-- One more row. -/
theorem NMb.push {b : Nat} {W W1 : World} {v v' r : Value} {m n : Nat} {hv : Nat → Value} {Q : Nat → Nat → Bool × Nat × Int} (h : NMb b W v m n hv Q) (hr : NRow W r n (Q m)) (ho : W1.ownsRow b 103 1 v' (m + 1) ((List.range m).map hv ++ [r])) (hg : W.grownBy W1 v.ownBlock) : NMb b W1 v' (m + 1) n (fun i => if i = m then r else hv i) Q := by
  refine ⟨by rw [map_upd2]; exact ho, fun i hi => ?_⟩
  by_cases him : i = m
  · subst him
    rw [if_pos rfl]
    exact hr.grown h.own hg (by decide) (by decide)
  · rw [if_neg him]
    exact (h.row i (by omega)).grown h.own hg (by decide) (by decide)

/-- n rows of n numbers in memory. -/
def NMat (W : World) (v : Value) (n : Nat) (Q : Nat → Nat → Bool × Nat × Int) : Prop := ∃ ao c, v = .slice ao n c ∧ (n = 0 ∨ ∃ g, ao = some ⟨g, 0, none⟩ ∧ g < W.heap.size ∧ ∀ i, i < n → ∃ ro rc, W.cell? ⟨g, i, none⟩ = some (.slice ro n rc) ∧ NRow W (.slice ro n rc) n (Q i))
theorem NMat.below {W W' : World} {v : Value} {n : Nat} {Q : Nat → Nat → Bool × Nat × Int} (h : NMat W v n Q) (hb : Below W.heap.size W W') : NMat W' v n Q := by
  obtain ⟨ao, c, e, h⟩ := h
  refine ⟨ao, c, e, ?_⟩
  rcases h with h | ⟨g, e2, hg, h⟩
  · exact .inl h
  · refine .inr ⟨g, e2, Nat.lt_of_lt_of_le hg hb.size, fun i hi => ?_⟩
    obtain ⟨ro, rc, h1, h2⟩ := h i hi
    exact ⟨ro, rc, by rw [hb.cell (by exact hg)]; exact h1, h2.below hb⟩
theorem NMb.mat {b : Nat} {W : World} {v : Value} {n : Nat} {hv : Nat → Value} {Q : Nat → Nat → Bool × Nat × Int} (h : NMb b W v n n hv Q) : NMat W v n Q := by
  obtain ⟨⟨-, h1⟩, h2⟩ := h
  rcases h1 with ⟨rfl, h0⟩ | ⟨g, cap, cur, rfl, hb, k1, k2, k3, k4, k5⟩
  · exact ⟨none, 0, by rw [h0], .inl h0⟩
  · refine ⟨_, cap, rfl, .inr ⟨g, rfl, lt_of_row k1, fun j hj => ?_⟩⟩
    have hr := h2 j hj
    obtain ⟨ro, rc, e, -⟩ := id hr
    refine ⟨ro, rc, ?_, by rw [← e]; exact hr⟩
    rw [cell_of_cur k1, ← Array.getElem?_toList, ← List.getElem?_take_of_lt (show j < n * 1 by omega), k5, List.getElem?_map, List.getElem?_range hj]
    simp [e]

/-- A number in a block of its own. -/
structure NBk (W : World) (g : Nat) (x : Bool × Nat × Int) (o : Option Addr) (l c : Nat) : Prop where
  blk : W.heap[g]? = some (.cells #[.bool x.1, .slice o l c, .int .i64 x.2.2] 92 (0, 0))
  len : l = (digits x.2.1).length
  nat : NatV W (.slice o l c) x.2.1
theorem NBk.below {W W' : World} {g : Nat} {x : Bool × Nat × Int} {o : Option Addr} {l c : Nat} (h : NBk W g x o l c) (hb : Below W.heap.size W W') : NBk W' g x o l c := ⟨blk_below h.blk hb, h.len, h.nat.below hb (Nat.le_refl _)⟩
/-- A box's interval. -/
def cB (p : Nat × Nat) : Nat × Nat := ((makeN p.1 p.2).1, (makeN p.1 p.2).2.1)
/-- One to four equations, and as many boxes. -/
def Shp (na d n : Nat) : Prop := n ≠ 0 ∧ n ≤ 4 ∧ d ≠ 0 ∧ (n = 1 ∧ na = 1 ∨ n ≠ 1 ∧ d = n ∧ na = n * n)
end Go.Proofs.YtonhpkigoplmaaaGreatDoor
namespace Go.Proofs.YtonhpkigoplmaaaGreatDoor
open Go.RowKit Go.Extern Ieee

/-- Where enclose.plainBelow goes from a place. -/
def pbP (p : Int) : Int := if 0 < p ∧ p < 553942754166571008 then 0 else if p < 0 ∧ -553942754166571008 < p then -553942754166571008 else p

theorem pbP_mono {p q : Int} (h : p ≤ q) : pbP p ≤ pbP q := by
  unfold pbP; repeat' split
  all_goals omega

theorem pbP_le (p : Int) : pbP p ≤ p := by
  unfold pbP; repeat' split
  all_goals omega

/-- The number at a plain place. -/
def pq (p : Int) : Rat := if p = 0 then 0 else if p < 0 then -rvQ (-p) else rvQ p

theorem pq_neg (p : Int) : pq (-p) = - pq p := by
  unfold pq
  rcases (show p < 0 ∨ p = 0 ∨ 0 < p by omega) with h | h | h
  · rw [if_neg (by omega), if_neg (by omega), if_neg (by omega), if_pos h]; grind
  · rw [if_pos (by omega), if_pos h]; grind
  · rw [if_neg (by omega), if_pos (by omega), if_neg (by omega), if_neg (by omega), Int.neg_neg]

theorem pq_mono {p q : Int} (h : p ≤ q) : pq p ≤ pq q := by
  unfold pq
  have h1 := rv_pos p
  have h2 := rv_pos q
  have h3 := rv_pos (-p)
  have h4 := rv_pos (-q)
  rcases (show p < 0 ∨ p = 0 ∨ 0 < p by omega) with a | a | a <;> rcases (show q < 0 ∨ q = 0 ∨ 0 < q by omega) with b | b | b
  · rw [if_neg (by omega), if_pos a, if_neg (by omega), if_pos b]
    have := rv_mono (r := -q) (t := -p) (by omega)
    grind
  · rw [if_neg (by omega), if_pos a, if_pos b]; grind
  · rw [if_neg (by omega), if_pos a, if_neg (by omega), if_neg (by omega)]; grind
  · omega
  · rw [if_pos a, if_pos b]; grind
  · rw [if_pos a, if_neg (by omega), if_neg (by omega)]; grind
  · omega
  · omega
  · rw [if_neg (by omega), if_neg (by omega), if_neg (by omega), if_neg (by omega)]; exact rv_mono h

theorem pq_lt {p q : Int} (h : p < q) : pq p < pq q := by
  unfold pq
  have h1 := rv_pos p
  have h2 := rv_pos q
  have h3 := rv_pos (-p)
  have h4 := rv_pos (-q)
  have m : ∀ r t : Int, r < t → rvQ r < rvQ t := by
    intro r t ht
    have a := (rv_succ r).1
    have b := rv_mono (r := r + 1) (t := t) (by omega)
    grind
  rcases (show p < 0 ∨ p = 0 ∨ 0 < p by omega) with a | a | a <;> rcases (show q < 0 ∨ q = 0 ∨ 0 < q by omega) with b | b | b
  · rw [if_neg (by omega), if_pos a, if_neg (by omega), if_pos b]
    have := m (-q) (-p) (by omega)
    grind
  · rw [if_neg (by omega), if_pos a, if_pos b]; grind
  · rw [if_neg (by omega), if_pos a, if_neg (by omega), if_neg (by omega)]; grind
  · omega
  · omega
  · rw [if_pos a, if_neg (by omega), if_neg (by omega)]; exact h2
  · omega
  · omega
  · rw [if_neg (by omega), if_neg (by omega), if_neg (by omega), if_neg (by omega)]; exact m p q h

theorem pq_word {p : Int} (h : plP p = true) : valQ (plT (wdP p)) = pq p := by
  unfold plP at h
  rw [decide_eq_true_eq] at h
  unfold pq
  by_cases h0 : p = 0
  · rw [if_pos h0, h0, wdP_zero, plT_zero]; exact val_zero rfl
  · rw [if_neg h0]
    have hp : plT (wdP p) = (decide (p < 0), p.natAbs % 4503599627370496 + 4503599627370496, ((p.natAbs / 4503599627370496 : Nat) : Int) - 1075) := by
      unfold plT wdP
      rw [plT_wd _ (by omega) (by omega)]; rfl
    rw [hp]
    have hr : rvQ (p.natAbs : Int) = ((p.natAbs % 4503599627370496 + 4503599627370496 : Nat) : Rat) * pw (((p.natAbs / 4503599627370496 : Nat) : Int) - 1075) := by
      rw [rv_at (m := ((p.natAbs % 4503599627370496 + 4503599627370496 : Nat) : Int)) (e := ((p.natAbs / 4503599627370496 : Nat) : Int) - 1075) (by omega) (by omega) (by omega), Rat.intCast_natCast]
    unfold valQ sg
    simp only
    by_cases hn : p < 0
    · rw [decide_eq_true hn, if_pos rfl, if_pos hn, show -p = (p.natAbs : Int) by omega, hr, Rat.intCast_neg, Rat.intCast_natCast]; grind
    · rw [decide_eq_false hn, if_neg Bool.false_ne_true, if_neg hn, show rvQ p = rvQ (p.natAbs : Int) by congr 1; omega, hr, Rat.intCast_natCast]

theorem rv_min : rvQ 553942754166571008 = pw (-900) := by
  rw [rv_at (m := 4503599627370496) (e := -952) (by decide) (by decide) (by decide)]
  rw [show ((4503599627370496 : Int) : Rat) = pw ((52 : Nat) : Int) by rw [pw_nat]; rfl, ← pw_add]; rfl
theorem rv_top : rvQ 8655918483806093312 = pw 899 := by
  rw [rv_at (m := 4503599627370496) (e := 847) (by decide) (by decide) (by decide)]
  rw [show ((4503599627370496 : Int) : Rat) = pw ((52 : Nat) : Int) by rw [pw_nat]; rfl, ← pw_add]; rfl

theorem end_low {x : Bool × Nat × Int} {q : Rat} (h : BR x q) :
    (-8660422083433463808 ≤ posV x (-1) → pq (pbP (posV x (-1))) ≤ q) ∧ (bd (pw 899) q → plP (pbP (posV x (-1))) = true ∧ Rnd (pw (-900)) (pq (pbP (posV x (-1)))) q) := by
  have e0 := eps_pos
  have p0 := pw_pos (-900)
  rcases h with ⟨h0, rfl⟩ | ⟨h0, E, rfl, h1, h2⟩
  · have : posV x (-1) = 0 := by unfold posV; rw [if_pos h0]
    rw [this]
    have e1 : pbP 0 = 0 := rfl
    have e2 : pq 0 = 0 := by unfold pq; rw [if_pos rfl]
    rw [e1, e2]
    refine ⟨fun _ => by grind, fun _ => ⟨rfl, fun B hB => ?_, fun _ => rfl⟩⟩
    have := bd_nonneg hB
    have := Rat.mul_nonneg (Rat.le_of_lt e0) this
    unfold bd; constructor <;> grind
  · have hp : posV x (-1) = sgI x.1 (clampR (endR x.1 x.2.1 x.2.2 (-1))) := by unfold posV; rw [if_neg h0]
    have hend : endR x.1 x.2.1 x.2.2 (-1) = rung x.2.1 x.2.2 + if x.1 && inex x.2.1 then 1 else 0 := by unfold endR; rw [offS_down]
    rw [hp, hend]
    have r0 := rv_pos (rung x.2.1 x.2.2)
    have rs := rv_succ (rung x.2.1 x.2.2)
    have hE0 : 0 < E := by grind
    have hi : E ≤ rvQ (rung x.2.1 x.2.2 + 1) := by
      have : rvQ (rung x.2.1 x.2.2 + if inex x.2.1 then 1 else 0) ≤ rvQ (rung x.2.1 x.2.2 + 1) := rv_mono (by split <;> omega)
      grind
    have htop : E ≤ pw 899 → rung x.2.1 x.2.2 ≤ 8655918483806093312 := by
      intro hE
      apply Decidable.byContradiction
      intro hc
      have a := rv_mono (r := 8655918483806093312 + 1) (t := rung x.2.1 x.2.2) (by omega)
      have b := (rv_succ 8655918483806093312).1
      rw [rv_top] at b
      grind
    cases hs : x.1
    · -- above 0
      simp only [Bool.false_and, Bool.false_eq_true, if_false, Int.add_zero]
      generalize rung x.2.1 x.2.2 = r at *
      have hsg : sgI false (clampR r) = clampR r := by unfold sgI; rw [if_neg Bool.false_ne_true]
      rw [hsg]
      have sh : ∀ y : Rat, y ≤ E → (∀ B, bd B E → bd (eps * B + pw (-900)) (y - E) ) → (Rnd (pw (-900)) y E) := fun y _ hB => ⟨hB, fun hz => by grind⟩
      rcases clampR_cases r with ⟨c1, c2⟩ | ⟨c1, c2⟩ | ⟨c1, c3, c2⟩
      · rw [c2]
        have e1 : pbP 553942754166571007 = 0 := by decide
        have e2 : pq 0 = 0 := by unfold pq; rw [if_pos rfl]
        rw [e1, e2]
        refine ⟨fun _ => by grind, fun _ => ⟨rfl, sh 0 (by grind) fun B hB => ?_⟩⟩
        have hm : rvQ (r + 1) ≤ rvQ 553942754166571008 := rv_mono (by omega)
        rw [rv_min] at hm
        have := Rat.mul_nonneg (Rat.le_of_lt e0) (bd_nonneg hB)
        unfold bd; constructor <;> grind
      · rw [c2]
        have hq : pq (pbP 8660422083433463809) ≤ E := by
          have e1 : pbP 8660422083433463809 = 8660422083433463809 := by decide
          have e2 : pq 8660422083433463809 = rvQ 8660422083433463809 := by unfold pq; rw [if_neg (by decide), if_neg (by decide)]
          rw [e1, e2]
          have := rv_mono (r := 8660422083433463809) (t := r) (by omega)
          grind
        refine ⟨fun _ => hq, fun hB => ?_⟩
        have := htop hB.2
        omega
      · rw [c2]
        have e1 : pbP r = r := by unfold pbP; rw [if_neg (by omega), if_neg (by omega)]
        have e2 : pq r = rvQ r := by unfold pq; rw [if_neg (by omega), if_neg (by omega)]
        rw [e1, e2]
        refine ⟨fun _ => h1, fun _ => ⟨by unfold plP; exact decide_eq_true (by omega), sh _ h1 fun B hB => ?_⟩⟩
        have k1 := mul_le_l (Rat.le_of_lt e0) hB.2
        have k2 := mul_le_l (Rat.le_of_lt e0) h1
        unfold bd; constructor <;> grind
    · -- below 0
      simp only [Bool.true_and, if_true]
      have hc : ∀ b : Bool, (0 : Int) ≤ (if b then 1 else 0) ∧ (if b then (1 : Int) else 0) ≤ 1 := by intro b; cases b <;> decide
      have hcx := hc (inex x.2.1)
      generalize (if inex x.2.1 = true then (1 : Int) else 0) = c at *
      generalize rung x.2.1 x.2.2 = r at *
      have hsg : sgI true (clampR (r + c)) = -clampR (r + c) := by unfold sgI; rw [if_pos rfl]
      rw [hsg]
      have hm1 : rvQ (r + c) ≤ rvQ (r + 1) := rv_mono (by omega)
      rcases clampR_cases (r + c) with ⟨c1, c2⟩ | ⟨c1, c2⟩ | ⟨c1, c3, c2⟩
      · rw [c2]
        have e1 : pbP (-553942754166571007) = -553942754166571008 := by decide
        have e2 : pq (-553942754166571008) = -rvQ 553942754166571008 := by unfold pq; rw [if_neg (by decide), if_pos (by decide)]; rfl
        rw [e1, e2, rv_min]
        have hm : rvQ (r + c) ≤ rvQ 553942754166571008 := rv_mono (by omega)
        rw [rv_min] at hm
        refine ⟨fun _ => by grind, fun _ => ⟨by decide, fun B hB => ?_, fun hz => by grind⟩⟩
        have := Rat.mul_nonneg (Rat.le_of_lt e0) (bd_nonneg hB)
        unfold bd; constructor <;> grind
      · rw [c2]
        refine ⟨fun hc => absurd hc (by decide), fun hB => ?_⟩
        have := htop (by unfold bd at hB; grind)
        omega
      · rw [c2]
        have e1 : pbP (-(r + c)) = -(r + c) := by unfold pbP; rw [if_neg (by omega), if_neg (by omega)]
        have e2 : pq (-(r + c)) = -rvQ (r + c) := by unfold pq; rw [if_neg (by omega), if_pos (by omega), Int.neg_neg]
        rw [e1, e2]
        refine ⟨fun _ => by grind, fun _ => ⟨by unfold plP; exact decide_eq_true (by omega), fun B hB => ?_, fun hz => by grind⟩⟩
        have k1 := mul_le_l (Rat.le_of_lt e0) (show E ≤ B by unfold bd at hB; grind)
        have k2 := mul_le_l (Rat.le_of_lt e0) h1
        unfold bd; constructor <;> grind

theorem posV_neg (x : Bool × Nat × Int) : posV (negT x) (-1) = - posV x 1 := by
  obtain ⟨s, n, e⟩ := x
  unfold posV negT
  simp only
  by_cases h0 : n = 0
  · rw [if_pos h0, if_pos h0]; rfl
  · rw [if_neg h0, if_neg h0]
    have : negS s n = !s := by unfold negS; rw [decide_eq_true h0, Bool.and_true]
    rw [this]
    have he : endR (!s) n e (-1) = endR s n e 1 := by unfold endR; rw [offS_down, offS_up]
    rw [he]
    unfold sgI
    cases s <;> simp

/-- The upper end. -/
def paP (p : Int) : Int := -pbP (-p)

theorem plP_neg (p : Int) : plP (-p) = plP p := by
  unfold plP
  rw [Int.natAbs_neg]
  apply decide_eq_decide.2
  constructor <;> intro h <;> omega

theorem end_high {x : Bool × Nat × Int} {q : Rat} (h : BR x q) :
    (posV x 1 ≤ 8660422083433463808 → q ≤ pq (paP (posV x 1))) ∧ (bd (pw 899) q → plP (paP (posV x 1)) = true ∧ Rnd (pw (-900)) (pq (paP (posV x 1))) q) := by
  have := end_low (br_neg h)
  rw [posV_neg] at this
  unfold paP
  rw [plP_neg, pq_neg]
  obtain ⟨k1, k2⟩ := this
  refine ⟨fun hp => by have := k1 (by omega); grind, fun hB => ?_⟩
  obtain ⟨a, b⟩ := k2 (bd_neg hB)
  refine ⟨a, fun B hB => ?_, fun hz => ?_⟩
  · have := b.near B (bd_neg hB)
    have := bd_neg this
    rwa [show -(pq (pbP (-posV x 1)) - -q) = -pq (pbP (-posV x 1)) - q by grind] at this
  · have := b.zero (by grind)
    grind
end Go.Proofs.YtonhpkigoplmaaaGreatDoor
