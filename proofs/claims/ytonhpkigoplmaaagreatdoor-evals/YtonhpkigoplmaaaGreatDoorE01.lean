/-
  OpensP, PolyW, PolyM, PolyR, PolyH.
-/
import Derived.Test.YtonhpkigoplmaaaGreatDoorJ21
import Derived.SizedLaws
import Derived.Test.YtonhpkigoplmaaaGreatDoorJ04
import Derived.Test.YtonhpkigoplmaaaGreatDoorJ01
import Derived.Test.YtonhpkigoplmaaaGreatDoorL01
import Derived.Test.YtonhpkigoplmaaaGreatDoorJ13
import Derived.Test.YtonhpkigoplmaaaGreatDoorK02
namespace Go.Proofs.YtonhpkigoplmaaaGreatDoor
open Go.RowKit Go.Deep Go.ChangeShapes Go.WideShapes

/-- A slice of n words as they lie in memory. -/
def WdV (W : World) (ao : Option Addr) (n : Nat) (ps : Nat → Nat) : Prop :=
  (∀ i, i < n → ps i < 18446744073709551616) ∧ (n = 0 ∨ ∃ g off, ao = some ⟨g, off, none⟩ ∧ g < W.heap.size ∧ ∀ i, i < n → W.cell? ⟨g, off + i, none⟩ = some (.int .u64 (ps i : Int)))

theorem WdV.below {W W' : World} {ao : Option Addr} {n : Nat} {ps : Nat → Nat} (h : WdV W ao n ps) (hb : Below W.heap.size W W') : WdV W' ao n ps := by
  refine ⟨h.1, ?_⟩
  rcases h.2 with h0 | ⟨g, off, e, hg, hc⟩
  · exact .inl h0
  · exact .inr ⟨g, off, e, Nat.lt_of_lt_of_le hg hb.size, fun i hi => by rw [hb.cell (by exact hg)]; exact hc i hi⟩

section
variable {H : Type} {enc : TypeId × Value → H} {W : World} {base : Nat} {spare : Nat → Bool} {held : Bool}

theorem k_bytes_u64 : Tryz.prog.bytesOf 26 = 8 := by kernel_rfl

theorem weightsAll_mem {P : Program} {e : TypeId} : ∀ {l : List (DataW H)} {d : DataW H}, d ∈ l → ∀ k ∈ d.weights P e, k ∈ DataW.weightsAll P e l
  | x :: l, d, hd, k, hk => by
    simp only [DataW.weightsAll, List.mem_append]
    rcases List.mem_cons.1 hd with rfl | h
    · exact .inl hk
    · exact .inr (weightsAll_mem h k hk)

theorem words_of {fuel : Nat} {po : Option Addr} {pl pc : Nat} {x : DataW H × List MemPlace} (h : DataW.trod enc Tryz.prog W base spare held fuel 29 [.slice po pl pc] = some x) : (∃ ps, WdV W po pl ps) ∧ (pl = 0 ∨ ∃ k ∈ x.1.weights Tryz.prog 29, pl * 8 ≤ k) := by
  rcases open_slice Tryz.underlying29 h with ⟨h0, hx⟩ | ⟨a, len, cap, m, f, D, Pl, h0, hb, hl, hm, hmm, hx, hall⟩
  · simp at h0
    obtain ⟨rfl, rfl, rfl⟩ := h0
    exact ⟨⟨fun _ => 0, fun i hi => by omega, .inl rfl⟩, .inl rfl⟩
  · simp at h0
    obtain ⟨rfl, rfl, rfl⟩ := h0
    have hmn : pl ≤ m := by rw [hmm]; split <;> omega
    rw [k_cells_u64] at hall
    have hop : ∀ i, i < pl → ∃ t : Nat, W.cell? (a.add (i * 1)) = some (.int .u64 (t : Int)) ∧ t < 18446744073709551616 := by
      intro i hi
      obtain ⟨cs', h1, h2⟩ := hall i (by omega)
      obtain ⟨-, hlen, hc⟩ := World.cells?_some h1
      obtain ⟨p, e0, _, w0⟩ := DataW.trod_int Tryz.underlying26 h2
      obtain ⟨l, rfl, hl⟩ := u64_wf w0
      have := hc 0 (by omega)
      rw [e0] at this
      simp [Addr.add] at this
      exact ⟨l, by simpa [Addr.add] using this, hl⟩
    obtain ⟨F, hF⟩ := choose_lt (α := Nat) hop
    subst hx
    refine ⟨⟨F, fun i hi => (hF i hi).2, ?_⟩, .inr ⟨(pl + (m - pl)) * Tryz.prog.bytesOf 26, by simp [DataW.weights, Tryz.underlying29], by rw [k_bytes_u64]; omega⟩⟩
    by_cases hn : pl = 0
    · exact .inl hn
    · right
      obtain ⟨g, off, spot⟩ := a
      have h00 := (hF 0 (by omega)).1
      have hspot : spot = none := by simpa [Addr.add] using World.cell?_spot h00
      subst hspot
      have ea : ∀ j, (Addr.mk g off none).add j = ⟨g, off + j, none⟩ := fun j => by
        by_cases hj : j = 0
        · subst hj; simp [Addr.add]
        · simp [Addr.add, hj]
      refine ⟨g, off, rfl, ?_, fun i hi => ?_⟩
      · have := World.block_lt_of_cell? W _ h00
        rw [ea] at this
        exact this
      · have := (hF i hi).1
        rwa [Nat.mul_one, ea] at this

theorem op_words {fuel : Nat} {a0 a1 a2 a3 a4 a5 a6 a7 : Value} {po : Option Addr} {pl pc : Nat} {x : DataW H × List MemPlace} (h : DataW.trod enc Tryz.prog W base spare held fuel 31 [a0, a1, a2, a3, a4, a5, a6, a7, .slice po pl pc] = some x) : (∃ ps, WdV W po pl ps) ∧ (pl = 0 ∨ ∃ k ∈ x.1.weights Tryz.prog 31, pl * 8 ≤ k) := by
  obtain ⟨xs, n, _, hxx, hl, hlen, hf⟩ := DataW.trod_struct Tryz.underlying31 h
  have hlen7 : xs.length = 7 := hlen
  obtain ⟨y6, g6⟩ : ∃ y, xs[6]? = some y := ⟨xs[6]'(by rw [hlen7]; omega), List.getElem?_eq_getElem (by rw [hlen7]; omega)⟩
  have f6 : DataW.trod enc Tryz.prog W base spare held n 29 (List.take (Tryz.prog.cellsOf 29) (List.drop 8 [a0, a1, a2, a3, a4, a5, a6, a7, .slice po pl pc])) = some y6 := (hf 6 _ rfl).trans g6
  rw [k_cells_p] at f6
  obtain ⟨hw, hk⟩ := words_of (show DataW.trod enc Tryz.prog W base spare held n 29 [.slice po pl pc] = some y6 from f6)
  refine ⟨hw, hk.imp id ?_⟩
  rintro ⟨k, hk, hle⟩
  refine ⟨k, ?_, hle⟩
  subst hxx
  simp only [DataW.weights, Tryz.underlying31]
  exact DataW.weights_mem_each (j := 6) (t := 29) (d := y6.1) rfl (by rw [List.getElem?_map, g6]; rfl) k hk

theorem script_words {fuel : Nat} {g off n c : Nat} {d : DataW H} {ps : List MemPlace} (h : DataW.trod enc Tryz.prog W base spare held fuel 22 (Value.slice (some ⟨g, off, none⟩) n c).cells.toList = some (d, ps)) {i : Nat} (hi : i < n) {po : Option Addr} {pl pc : Nat} (h8 : W.cell? ⟨g, off + i * 9 + 8, none⟩ = some (.slice po pl pc)) : (∃ q, WdV W po pl q) ∧ (pl = 0 ∨ ∃ k ∈ d.weights Tryz.prog 22, pl * 8 ≤ k) := by
  have hcs : (Value.slice (some ⟨g, off, none⟩) n c).cells.toList = [.slice (some ⟨g, off, none⟩) n c] := rfl
  rw [hcs] at h
  rcases open_slice Tryz.underlying22 h with ⟨h0, hx⟩ | ⟨a, len, cap, m, f, D, Pl, h0, hb, hl, hm, hmm, hx, hall⟩
  · simp at h0
  · simp at h0
    obtain ⟨rfl, rfl, rfl⟩ := h0
    have hmn : n ≤ m := by rw [hmm]; split <;> omega
    rw [k_cellsOp] at hall
    obtain ⟨cs', h1, h2⟩ := hall i (by omega)
    obtain ⟨-, -, hc⟩ := World.cells?_some h1
    obtain ⟨k, a', b', s, xl, xh, yl, yh, po', pl', pc', rfl, -⟩ := op_cells h2
    have e8 := hc 8 (by omega)
    have ea : ∀ j, (Addr.mk g off none).add j = ⟨g, off + j, none⟩ := fun j => by
      by_cases hj : j = 0
      · subst hj; simp [Addr.add]
      · simp [Addr.add, hj]
    have ea2 : ∀ i j, ((Addr.mk g off none).add i).add j = ⟨g, off + i + j, none⟩ := fun i j => by
      rw [ea]
      by_cases hj : j = 0
      · subst hj; simp [Addr.add]
      · simp [Addr.add, hj]
    rw [ea2] at e8
    rw [h8] at e8
    simp at e8
    obtain ⟨rfl, rfl, rfl⟩ := e8
    obtain ⟨hw, hk⟩ := op_words h2
    refine ⟨hw, hk.imp id ?_⟩
    rintro ⟨k', hk', hle⟩
    refine ⟨k', ?_, hle⟩
    have hd : d = .slice ((List.range n).map D) ((List.range (m - n)).map fun j => D (n + j)) := (Prod.mk.inj hx).1
    subst hd
    simp only [DataW.weights, Tryz.underlying22]
    exact List.mem_cons_of_mem _ (List.mem_append_left _ (weightsAll_mem (List.mem_map.2 ⟨i, List.mem_range.2 hi, rfl⟩) k' hk'))
end
end Go.Proofs.YtonhpkigoplmaaaGreatDoor
namespace Go.Proofs.YtonhpkigoplmaaaGreatDoor
open Go.RowKit Go.Extern

theorem infoU64 : (Tryz.prog.info? 26).map (fun i => (i.zero, i.size, i.bytes)) = some (some (.int .u64 0), 1, 8) := by kernel_rfl
theorem infoF64 : (Tryz.prog.info? 65).map (fun i => (i.zero, i.size, i.bytes)) = some (some (.float .f64 0), 1, 8) := by kernel_rfl

def wvs (ps : Nat → Nat) (n : Nat) : List Value := (List.range n).map fun i => .int .u64 (ps i : Int)
def fvs (ps : Nat → Nat) (n : Nat) : List Value := (List.range n).map fun i => .float .f64 (ps i)

/-- A slice of n floats as they lie in memory. -/
def FlV (W : World) (ao : Option Addr) (n : Nat) (ps : Nat → Nat) : Prop :=
  n = 0 ∨ ∃ g off, ao = some ⟨g, off, none⟩ ∧ g < W.heap.size ∧ ∀ i, i < n → W.cell? ⟨g, off + i, none⟩ = some (.float .f64 (ps i))

theorem FlV.below {W W' : World} {ao : Option Addr} {n : Nat} {ps : Nat → Nat} (h : FlV W ao n ps) (hb : Below W.heap.size W W') : FlV W' ao n ps := by
  rcases h with h0 | ⟨g, off, e, hg, hc⟩
  · exact .inl h0
  · exact .inr ⟨g, off, e, Nat.lt_of_lt_of_le hg hb.size, fun i hi => by rw [hb.cell (by exact hg)]; exact hc i hi⟩

theorem WdV.of_owns {w : World} {v : Value} {n B : Nat} {ps : Nat → Nat} (h : w.ownsRow B 26 1 v n (wvs ps n)) (hp : ∀ i, i < n → ps i < 18446744073709551616) : ∃ ao c, v = .slice ao n c ∧ WdV w ao n ps := by
  obtain ⟨_, h2⟩ := h
  rcases h2 with ⟨rfl, h0⟩ | ⟨g, cap, cur, rfl, hg, hh, hn, hcap, hs, ht⟩
  · subst h0; exact ⟨none, 0, rfl, hp, .inl rfl⟩
  · refine ⟨_, _, rfl, hp, .inr ⟨g, 0, rfl, (Array.getElem?_eq_some_iff.1 hh).1, fun i hi => ?_⟩⟩
    have := congrArg (fun x => x[i]?) ht
    simp only [Nat.mul_one, List.getElem?_take, hi, if_true, Array.getElem?_toList, wvs, List.getElem?_map] at this
    rw [cell_of_cur hh, Nat.zero_add, this]
    simp [hi]

theorem FlV.of_owns {w : World} {v : Value} {n B : Nat} {ps : Nat → Nat} (h : w.ownsRow B 65 1 v n (fvs ps n)) : ∃ ao c, v = .slice ao n c ∧ FlV w ao n ps := by
  obtain ⟨_, h2⟩ := h
  rcases h2 with ⟨rfl, h0⟩ | ⟨g, cap, cur, rfl, hg, hh, hn, hcap, hs, ht⟩
  · subst h0; exact ⟨none, 0, rfl, .inl rfl⟩
  · refine ⟨_, _, rfl, .inr ⟨g, 0, rfl, (Array.getElem?_eq_some_iff.1 hh).1, fun i hi => ?_⟩⟩
    have := congrArg (fun x => x[i]?) ht
    simp only [Nat.mul_one, List.getElem?_take, hi, if_true, Array.getElem?_toList, fvs, List.getElem?_map] at this
    rw [cell_of_cur hh, Nat.zero_add, this]
    simp [hi]

set_option maxHeartbeats 1000000 in
set_option maxRecDepth 100000 in
theorem copied_any (ao : Option Addr) (n c : Nat) (ps : Nat → Nat) (w : World) (h : WdV w ao n ps) (hn : n * 8 ≤ 140737488355328) :
    Calls Tryz.prog 35 #[.slice ao n c] w fun e w' => ∃ bo bc, e = .returned (.slice bo n bc) ∧ WdV w' bo n ps ∧ Below w.heap.size w w' := by
  obtain ⟨i0, hi, hz0, hz1, hz2⟩ := info_parts infoU64
  cases ao with
  | none =>
    have h0 : n = 0 := by
      rcases h.2 with h0 | ⟨g, off, e, _⟩
      · exact h0
      · cases e
    subst h0
    go_enter Tryz.func35, Tryz.ntmps35
    go_wp2
    go_ret
    exact ⟨none, 0, rfl, ⟨h.1, .inl rfl⟩, Below.refl _ _⟩
  | some a =>
    have HW : Hid (WdV w (some a) n ps) := h
    have hlen : (wvs ps n).length = n := by unfold wvs; simp
    have hcell : ∀ j u, (wvs ps n)[j]? = some u → w.cell? (a.add j) = some u := by
      intro j u hj
      have hjn : j < n := by
        have := (List.getElem?_eq_some_iff.1 hj).1
        rwa [hlen] at this
      rcases h.2 with h0 | ⟨g, off, e, hg, hc⟩
      · omega
      · obtain rfl := Option.some.inj e
        have := hc j hjn
        have ea : (Addr.mk g off none).add j = ⟨g, off + j, none⟩ := by
          by_cases hj : j = 0
          · subst hj; simp [Addr.add]
          · simp [Addr.add, hj]
        rw [ea, this]
        unfold wvs at hj
        simp [hjn] at hj
        rw [← hj]
    have hone : ∀ u ∈ wvs ps n, u.oneCell' = true := by
      intro u hu
      unfold wvs at hu
      obtain ⟨i, _, rfl⟩ := List.mem_map.1 hu
      rfl
    have HC : Hid (∀ j u, (wvs ps n)[j]? = some u → w.cell? (a.add j) = some u) := hcell
    clear h hcell
    go_enter Tryz.func35, Tryz.ntmps35
    go_wp2_with (first
      | (at_builtin; refine wpList_append_own _ rfl _ _ 29 rfl w.heap.size 26 i0 (.int .u64 0) 1 8 Tryz.underlying29 hi hz0 hz1 hz2 rfl (by decide) _ _ _ rfl (World.ownsRow_nil _ _ _ _) a n c (wvs ps n) rfl (by rw [hlen]; omega) HC.out hone ?c3 ?c4 ?c5 ?_)
      | go_in)
    case c3 => unfold maxLen; omega
    case c4 => omega
    case c5 => exact Nat.le_refl _
    · intro v' w1 hown' hgrow _
      obtain ⟨bo, bc, rfl, hv⟩ := WdV.of_owns hown' HW.out.1
      have hb : Below w.heap.size w w1 := (Below.refl _ w).grown hgrow (by simp) (fun k hk => by simp [Value.ownBlock] at hk)
      clear hown' hgrow
      go_wp2
      go_ret
      exact ⟨bo, bc, rfl, hv, hb⟩

theorem fvs_snoc (ps : Nat → Nat) (i : Nat) : fvs ps i ++ [.float .f64 (ps i)] = fvs ps (i + 1) := by
  unfold fvs
  rw [List.range_succ, List.map_append]
  rfl

theorem fpush_step {B : Nat} {w wr w1 : World} {v v' : Value} {i : Nat} {ps : Nat → Nat} {X : Obj} (hown : wr.ownsRow B 65 1 v i (fvs ps i)) (hb : Below B w wr) (hB : B ≤ w.heap.size)
    (hown' : w1.ownsRow B 65 1 v' (i + 1) (fvs ps i ++ [.float .f64 (ps i)])) (hgrow : (wr.alloc X).grownBy w1 v.ownBlock) :
    w1.ownsRow B 65 1 v' (i + 1) (fvs ps (i + 1)) ∧ Below B w w1 := by
  have hs := hb.size
  refine ⟨by rw [← fvs_snoc]; exact hown', ?_⟩
  exact (hb.alloc (by omega) X).grown hgrow (by simp; omega) (fun k hk => (hown.lt k hk).1)

set_option maxHeartbeats 1000000 in
set_option maxRecDepth 100000 in
theorem floats_any (ao : Option Addr) (n c : Nat) (ps : Nat → Nat) (w : World) (h : WdV w ao n ps) (hn : n * 8 ≤ 140737488355328) :
    Calls Tryz.prog 52 #[.slice ao n c] w fun e w' => ∃ bo bc, e = .returned (.slice bo n bc) ∧ FlV w' bo n ps ∧ Below w.heap.size w w' := by
  obtain ⟨i0, hi, hz0, hz1, hz2⟩ := info_parts infoF64
  have h93 := @run_callFunc_extern Tryz.prog 113 _ MathFloatBits.float64frombits Tryz.func113 (by kernel_rfl) (by kernel_rfl) (by kernel_rfl) (by kernel_rfl)
  have cf := c_from
  have HW : Hid (WdV w ao n ps) := h
  clear h
  go_enter Tryz.func52, Tryz.ntmps52
  go_wp2
  go_loopw [3, 5, 8] (fun v _ x wr => ∃ i : Nat, i ≤ n ∧ x = .int .i64 (i : Int) ∧ wr.ownsRow w.heap.size 65 1 v i (fvs ps i) ∧ Below w.heap.size w wr) (fun _ _ x _ => n - (intOf x).toNat)
  case atStart => exact ⟨0, Nat.zero_le _, rfl, World.ownsRow_nil _ _ _ _, Below.refl _ _⟩
  case round =>
    obtain ⟨i, hi1, rfl, hown, hb⟩ := hrel
    by_cases hin : i < n
    · obtain ⟨g, off, rfl, hg, hc⟩ := HW.out.2.resolve_left (by omega)
      have hci := hc i hin
      rw [← hb.cell (by exact hg)] at hci
      clear hc
      go_wp2_with (first
        | (at_builtin; refine wpList_append_own _ rfl _ _ 80 rfl w.heap.size 65 i0 (.float .f64 0) 1 8 Tryz.underlying80 hi hz0 hz1 hz2 rfl (by decide) _ _ _ rfl (hown.alloc _) ⟨wr.heap.size, 0, none⟩ 1 1 [.float .f64 (ps i)] rfl rfl ?c1 ?c2 ?c3 ?c4 ?c5 ?_)
        | go_in)
      case c1 =>
        intro j u hj
        match j, hj with
        | 0, hj => simp at hj; subst hj; simp [Addr.add]
      case c2 => intro u hu; simp at hu; subst hu; rfl
      case c3 => unfold maxLen; omega
      case c4 => omega
      case c5 => have := hb.size; simp; omega
      · intro v' w1 hown' hgrow _
        have R := fpush_step hown hb (Nat.le_refl _) hown' hgrow
        clear hown' hgrow hown hb hci
        go_wp2
        go_roundw
        case rel => exact ⟨i + 1, by omega, by go_num, R.1, R.2⟩
        case measure => simp [intOf]; omega
    · have e : i = n := by omega
      subst e
      obtain ⟨bo, bc, rfl, hv⟩ := FlV.of_owns hown
      clear hown
      go_wp2
      go_ret
      exact ⟨bo, bc, rfl, hv, hb⟩
end Go.Proofs.YtonhpkigoplmaaaGreatDoor
namespace Go.Proofs.YtonhpkigoplmaaaGreatDoor
open Go.RowKit Go.Extern Ieee

/-- A product, then a sum. -/
def hstep (x1 x2 : Bool × Nat × Int) (q : Nat) (r : Nat × Nat × Nat × ByteArray) : Nat × Nat × Nat × ByteArray :=
  if r.2.2.1 ≠ 0 then r
  else if (refOpN 5 (plT r.1) (plT r.2.1) x1 x2).2.2.1 ≠ 0 then refOpN 5 (plT r.1) (plT r.2.1) x1 x2
  else refOpN 3 (plT (refOpN 5 (plT r.1) (plT r.2.1) x1 x2).1) (plT (refOpN 5 (plT r.1) (plT r.2.1) x1 x2).2.1) (plT q) (plT q)

/-- From the last number on, so many steps. -/
def hornN (ps : Nat → Nat) (n : Nat) (x1 x2 : Bool × Nat × Int) : Nat → Nat × Nat × Nat × ByteArray
  | 0 => (posW (ps (n - 1)), posW (ps (n - 1)), 0, ⟨#[]⟩)
  | j + 1 => hstep x1 x2 (posW (ps (n - 2 - j))) (hornN ps n x1 x2 j)

/-- The first fault of a list of numbers. -/
def rightN (ps : Nat → Nat) (n : Nat) : Nat :=
  if n < 1 ∨ 9 < n then 8 else if (List.range n).all (fun i => (plainN (ps i)).isSome) then 0 else 1

def evalN (ps : Nat → Nat) (n : Nat) (x1 x2 : Bool × Nat × Int) : Nat × Nat × Nat × ByteArray :=
  if rightN ps n ≠ 0 then (0, 0, rightN ps n, ⟨#[]⟩) else hornN ps n x1 x2 (n - 1)

theorem boxP_code {p q : Int} (h : (boxP p q).2.2 = 0) : plP p = true ∧ plP q = true := by
  unfold boxP at h
  split at h
  · assumption
  · cases h

theorem name_code {p q : Int} {s : ByteArray} (h : (nameT (boxP p q) s).2.2.1 = 0) : plP p = true ∧ plP q = true ∧ nameT (boxP p q) s = (wdP p, wdP q, 0, ⟨#[]⟩) := by
  have hc : (boxP p q).2.2 = 0 := by
    unfold nameT at h
    split at h
    · assumption
    · exact h
  obtain ⟨h1, h2⟩ := boxP_code hc
  refine ⟨h1, h2, ?_⟩
  rw [boxP_plain h1 h2]
  rfl

theorem name_zero (p q : Int) (s : ByteArray) (h : (nameT (boxP p q) s).2.2.1 ≠ 0) : (nameT (boxP p q) s).1 = 0 ∧ (nameT (boxP p q) s).2.1 = 0 := by
  unfold nameT at h ⊢
  split at h
  · simp at h
  · rename_i h'
    rw [if_neg h']
    exact ⟨rfl, rfl⟩

theorem pick_min4 (a b c d : Bool × Nat × Int) : ∃ z, min (min (min (posV a (-1)) (posV b (-1))) (posV c (-1))) (posV d (-1)) = posV z (-1) := by
  obtain ⟨u, _, e1⟩ := pick_min a b
  obtain ⟨v, _, e2⟩ := pick_min u c
  obtain ⟨z, _, e3⟩ := pick_min v d
  exact ⟨z, by rw [e1, e2, e3]⟩
theorem pick_max4 (a b c d : Bool × Nat × Int) : ∃ z, max (max (max (posV a 1) (posV b 1)) (posV c 1)) (posV d 1) = posV z 1 := by
  obtain ⟨u, _, e1⟩ := pick_max a b
  obtain ⟨v, _, e2⟩ := pick_max u c
  obtain ⟨z, _, e3⟩ := pick_max v d
  exact ⟨z, by rw [e1, e2, e3]⟩

theorem iv_mul {a1 a2 b1 b2 : Bool × Nat × Int} (h : (refOpN 5 a1 a2 b1 b2).2.2.1 = 0) : Iv (refOpN 5 a1 a2 b1 b2).1 (refOpN 5 a1 a2 b1 b2).2.1 := by
  have e : refOpN 5 a1 a2 b1 b2 = nameT (spanT (prodN a1 b1) (prodN a1 b2) (prodN a2 b1) (prodN a2 b2)) ⟨#[42]⟩ := rfl
  rw [e, span_posV] at h ⊢
  obtain ⟨u, eu⟩ := pick_min4 (prodN a1 b1) (prodN a1 b2) (prodN a2 b1) (prodN a2 b2)
  obtain ⟨v, ev⟩ := pick_max4 (prodN a1 b1) (prodN a1 b2) (prodN a2 b1) (prodN a2 b2)
  have hle : posV u (-1) ≤ posV v 1 := by
    rw [← eu, ← ev]
    have := posV_le (prodN a1 b1)
    omega
  rw [eu, ev] at h ⊢
  obtain ⟨h1, h2, h3⟩ := name_code h
  rw [h3]
  exact iv_wdP h1 h2 hle

theorem iv_leV {l h : Nat} (i : Iv l h) : leV (plT l) (plT h) := by
  refine (lessT_le (plT h) (plT l)).2 ?_
  rw [lessT_pos i i.low]
  exact decide_eq_false (by have := i.le; omega)

theorem leV_means2 {x y : Bool × Nat × Int} (h : leV x y) {e : Int} (h1 : e ≤ x.2.2) (h2 : e ≤ y.2.2) : sg x.1 (x.2.1 * 2 ^ (x.2.2 - e).toNat) ≤ sg y.1 (y.2.1 * 2 ^ (y.2.2 - e).toNat) := by
  unfold leV lvA lvB at h
  have hm := Int.mul_le_mul_of_nonneg_right h (Int.natCast_nonneg (2 ^ (min x.2.2 y.2.2 - e).toNat))
  rw [sg_mul, sg_mul, Nat.mul_assoc, Nat.mul_assoc, ← Nat.pow_add, ← Nat.pow_add] at hm
  rwa [show (x.2.2 - min x.2.2 y.2.2).toNat + (min x.2.2 y.2.2 - e).toNat = (x.2.2 - e).toNat by omega, show (y.2.2 - min x.2.2 y.2.2).toNat + (min x.2.2 y.2.2 - e).toNat = (y.2.2 - e).toNat by omega] at hm

theorem sum_mono {a1 a2 b1 b2 : Bool × Nat × Int} (ha : leV a1 a2) (hb : leV b1 b2) : leV (sumT a1 b1) (sumT a2 b2) := by
  have e1 : min (min a1.2.2 a2.2.2) (min b1.2.2 b2.2.2) ≤ a1.2.2 := by omega
  have e2 : min (min a1.2.2 a2.2.2) (min b1.2.2 b2.2.2) ≤ a2.2.2 := by omega
  have e3 : min (min a1.2.2 a2.2.2) (min b1.2.2 b2.2.2) ≤ b1.2.2 := by omega
  have e4 : min (min a1.2.2 a2.2.2) (min b1.2.2 b2.2.2) ≤ b2.2.2 := by omega
  have m1 := means_low2 a1 e1
  have m2 := means_low2 a2 e2
  have m3 := means_low2 b1 e3
  have m4 := means_low2 b2 e4
  have l1 := leV_means2 ha e1 e2
  have l2 := leV_means2 hb e3 e4
  exact leV_means (sumN_means m1 m3) (sumN_means m2 m4) (by omega)

theorem iv_add {a1 a2 b1 b2 : Bool × Nat × Int} (ha : leV a1 a2) (hb : leV b1 b2) (h : (refOpN 3 a1 a2 b1 b2).2.2.1 = 0) : Iv (refOpN 3 a1 a2 b1 b2).1 (refOpN 3 a1 a2 b1 b2).2.1 := by
  have e : refOpN 3 a1 a2 b1 b2 = nameT (aroundN (sumT a1 b1) (sumT a2 b2)) ⟨#[43]⟩ := rfl
  rw [e, aroundN_posV] at h ⊢
  have hle : posV (sumT a1 b1) (-1) ≤ posV (sumT a2 b2) 1 := Int.le_trans (posV_mono (-1) (.inl rfl) (sum_mono ha hb)) (posV_le _)
  obtain ⟨h1, h2, h3⟩ := name_code h
  rw [h3]
  exact iv_wdP h1 h2 hle

theorem op5_zero {a1 a2 b1 b2 : Bool × Nat × Int} (h : (refOpN 5 a1 a2 b1 b2).2.2.1 ≠ 0) : (refOpN 5 a1 a2 b1 b2).1 = 0 ∧ (refOpN 5 a1 a2 b1 b2).2.1 = 0 := by
  have e : refOpN 5 a1 a2 b1 b2 = nameT (spanT (prodN a1 b1) (prodN a1 b2) (prodN a2 b1) (prodN a2 b2)) ⟨#[42]⟩ := rfl
  rw [e, span_posV] at h ⊢
  exact name_zero _ _ _ h
theorem op3_zero {a1 a2 b1 b2 : Bool × Nat × Int} (h : (refOpN 3 a1 a2 b1 b2).2.2.1 ≠ 0) : (refOpN 3 a1 a2 b1 b2).1 = 0 ∧ (refOpN 3 a1 a2 b1 b2).2.1 = 0 := by
  have e : refOpN 3 a1 a2 b1 b2 = nameT (aroundN (sumT a1 b1) (sumT a2 b2)) ⟨#[43]⟩ := rfl
  rw [e, aroundN_posV] at h ⊢
  exact name_zero _ _ _ h

/-- A point. -/
theorem iv_point {b : Nat} (hb : b < 18446744073709551616) (hp : (plainN b).isSome = true) : Iv (posW b) (posW b) := (posW_iv hb (plT_some hp)).1

theorem right_plain {ps : Nat → Nat} {n : Nat} (h : rightN ps n = 0) : 1 ≤ n ∧ n ≤ 9 ∧ ∀ i, i < n → (plainN (ps i)).isSome = true := by
  unfold rightN at h
  split at h
  · cases h
  · split at h
    · rename_i h1 h2
      refine ⟨by omega, by omega, fun i hi => ?_⟩
      rw [List.all_eq_true] at h2
      exact h2 i (List.mem_range.2 hi)
    · cases h

/-- While there is no error the ends are an interval's; with an error they are 0. -/
theorem horn_iv {ps : Nat → Nat} {n : Nat} {x1 x2 : Bool × Nat × Int} (hr : rightN ps n = 0) (hb : ∀ i, i < n → ps i < 18446744073709551616) : ∀ j, j < n → ((hornN ps n x1 x2 j).2.2.1 = 0 → Iv (hornN ps n x1 x2 j).1 (hornN ps n x1 x2 j).2.1) ∧ ((hornN ps n x1 x2 j).2.2.1 ≠ 0 → (hornN ps n x1 x2 j).1 = 0 ∧ (hornN ps n x1 x2 j).2.1 = 0)
  | 0, hj => by
    obtain ⟨h1, h2, h3⟩ := right_plain hr
    exact ⟨fun _ => iv_point (hb _ (by omega)) (h3 _ (by omega)), fun h => absurd rfl h⟩
  | j + 1, hj => by
    obtain ⟨h1, h2, h3⟩ := right_plain hr
    obtain ⟨i1, i2⟩ := horn_iv (x1 := x1) (x2 := x2) hr hb j (by omega)
    have ip := iv_point (hb (n - 2 - j) (by omega)) (h3 (n - 2 - j) (by omega))
    have e : hornN ps n x1 x2 (j + 1) = hstep x1 x2 (posW (ps (n - 2 - j))) (hornN ps n x1 x2 j) := rfl
    rw [e]
    generalize hornN ps n x1 x2 j = r at *
    unfold hstep
    by_cases hc : r.2.2.1 ≠ 0
    · rw [if_pos hc]; exact ⟨i1, i2⟩
    · rw [if_neg hc]
      by_cases hm : (refOpN 5 (plT r.1) (plT r.2.1) x1 x2).2.2.1 ≠ 0
      · rw [if_pos hm]; exact ⟨fun h => absurd h hm, fun h => op5_zero h⟩
      · rw [if_neg hm]
        have im := iv_mul (Decidable.not_not.1 hm)
        exact ⟨fun h => iv_add (iv_leV im) (iv_leV ip) h, fun h => op3_zero h⟩
end Go.Proofs.YtonhpkigoplmaaaGreatDoor
namespace Go.Proofs.YtonhpkigoplmaaaGreatDoor
open Go.RowKit Go.Extern

theorem right_all {ps : Nat → Nat} {n : Nat} (h1 : 1 ≤ n) (h2 : n ≤ 9) (h : ∀ i, i < n → (plainN (ps i)).isSome = true) : rightN ps n = 0 := by
  unfold rightN
  rw [if_neg (by omega), if_pos]
  rw [List.all_eq_true]
  intro i hi
  exact h i (List.mem_range.1 hi)

theorem right_bad {ps : Nat → Nat} {n i : Nat} (h1 : 1 ≤ n) (h2 : n ≤ 9) (hi : i < n) (h : (plainN (ps i)).isSome = false) : rightN ps n = 1 := by
  unfold rightN
  rw [if_neg (by omega), if_neg]
  rw [List.all_eq_true]
  intro hc
  have := hc i (List.mem_range.2 hi)
  rw [h] at this
  cases this

theorem right_shape {ps : Nat → Nat} {n : Nat} (h : n < 1 ∨ 9 < n) : rightN ps n = 8 := by
  unfold rightN; rw [if_pos h]

set_option maxHeartbeats 1000000 in
set_option maxRecDepth 100000 in
theorem right_any (ao : Option Addr) (n c : Nat) (ps : Nat → Nat) (w : World) (h : WdV w ao n ps) (hn : n * 8 ≤ 140737488355328) :
    Calls Tryz.prog 80 #[.slice ao n c] w fun e w' => e = .returned (.int .i64 (rightN ps n : Int)) ∧ Below w.heap.size w w' := by
  by_cases hs : n < 1 ∨ 9 < n
  · rw [right_shape hs]
    rcases hs with hs | hs
    · obtain rfl : n = 0 := by omega
      go_enter Tryz.func80, Tryz.ntmps80
      go_wp2
      go_ret
      exact ⟨rfl, Below.refl _ _⟩
    · have h9 : (9 : Int) < n := by omega
      have h1 : ¬ (n : Int) < 1 := by omega
      clear h
      go_enter Tryz.func80, Tryz.ntmps80
      go_wp2
      go_ret
      exact ⟨rfl, Below.refl _ _⟩
  · have h9 : ¬ (9 : Int) < n := by omega
    have h1 : ¬ (n : Int) < 1 := by omega
    have HW : Hid (WdV w ao n ps) := h
    have hn1 : 1 ≤ n := by omega
    have hn9 : n ≤ 9 := by omega
    clear h hs
    go_enter Tryz.func80, Tryz.ntmps80
    go_wp2
    go_loopw [3, 4, 5] (fun x _ _ wr => ∃ i : Nat, i ≤ n ∧ x = .int .i64 (i : Int) ∧ (∀ j, j < i → (plainN (ps j)).isSome = true) ∧ Below w.heap.size w wr) (fun x _ _ _ => n - (intOf x).toNat)
    case atStart => exact ⟨0, Nat.zero_le _, rfl, fun j hj => by omega, Below.refl _ _⟩
    case round =>
      obtain ⟨i, hi1, rfl, hall, hb⟩ := hrel
      by_cases hin : i < n
      · obtain ⟨g, off, rfl, hg, hc⟩ := HW.out.2.resolve_left (by omega)
        have hci := hc i hin
        rw [← hb.cell (by exact hg)] at hci
        have hlt := HW.out.1 i hin
        have Hb : Hid (Below w.heap.size w wr) := hb
        have HA : Hid (∀ j, j < i → (plainN (ps j)).isSome = true) := hall
        clear hc hb hall
        go_wp2_with fail
        refine Calls.mono (plain_any (ps i) _ hlt) ?_
        rintro e w1 ⟨x, rfl, ⟨xo, xn, xc, rfl, -, -⟩, hb1⟩
        have HB1 : Hid (Below w.heap.size w w1) := Hb.out.trans (hb1.mono Hb.out.size)
        clear hb1 Hb hci hlt
        cases hp : (plainN (ps i)).isSome
        · have HR : Hid (rightN ps n = 1) := right_bad hn1 hn9 hin hp
          clear hp HA
          go_wp2
          go_ret
          rw [HR.out]
          exact ⟨rfl, HB1.out.alloc HB1.out.size _⟩
        · have HA' : Hid (∀ j, j < i + 1 → (plainN (ps j)).isSome = true) := fun j hj => by
            by_cases h : j < i
            · exact HA.out j h
            · rw [show j = i by omega]; exact hp
          clear hp HA
          go_wp2
          go_roundw
          case rel => exact ⟨i + 1, by omega, by go_num, HA'.out, HB1.out.alloc HB1.out.size _⟩
          case measure => simp [intOf]; omega
      · have e : i = n := by omega
        subst e
        have HR : Hid (rightN ps i = 0) := right_all hn1 hn9 hall
        clear hall
        go_wp2
        go_ret
        rw [HR.out]
        exact ⟨rfl, hb⟩

set_option maxHeartbeats 1000000 in
set_option maxRecDepth 100000 in
theorem check_any (A : Nat → Addr) (ao : Option Addr) (n c : Nat) (ps : Nat → Nat) (w : World) (hS : Sents A w) (h : FlV w ao n ps) (hp : ∀ i, i < n → ps i < 18446744073709551616) (hn : n * 8 ≤ 140737488355328) :
    Calls Tryz.prog 102 #[.slice ao n c] w fun e w' => ∃ v, e = .returned v ∧ ErrIs A w' v (rightN ps n) ⟨#[]⟩ ∧ Below w.heap.size w w' := by
  by_cases hs : n < 1 ∨ 9 < n
  · rw [right_shape hs]
    have c2 : w.cell? ⟨7, 0, none⟩ = some (.iface 229 (.pointer (some (A 7)))) := hS.cell 7 (by omega)
    have HR : Hid (∀ w', ErrIs A w' (.iface 229 (.pointer (some (A 7)))) 8 ⟨#[]⟩) := fun w' => ErrIs.one 7 (by omega)
    clear h hp hS
    rcases hs with hs | hs
    · obtain rfl : n = 0 := by omega
      go_enter Tryz.func102, Tryz.ntmps102
      go_wp2
      go_ret
      exact ⟨_, rfl, HR.out _, Below.refl _ _⟩
    · have h9 : (9 : Int) < n := by omega
      have h1 : ¬ (n : Int) = 0 := by omega
      go_enter Tryz.func102, Tryz.ntmps102
      go_wp2
      go_ret
      exact ⟨_, rfl, HR.out _, Below.refl _ _⟩
  · have h9 : ¬ (9 : Int) < n := by omega
    have h1 : ¬ (n : Int) = 0 := by omega
    have HW : Hid (FlV w ao n ps) := h
    have HP : Hid (∀ i, i < n → ps i < 18446744073709551616) := hp
    have HS : Hid (Sents A w) := hS
    have hn1 : 1 ≤ n := by omega
    have hn9 : n ≤ 9 := by omega
    clear h hs hp hS
    go_enter Tryz.func102, Tryz.ntmps102
    go_wp2
    go_loopw [4, 16] (fun _ x wr => ∃ i : Nat, i ≤ n ∧ x = .int .i64 (i : Int) ∧ (∀ j, j < i → (plainN (ps j)).isSome = true) ∧ Below w.heap.size w wr) (fun _ x _ => n - (intOf x).toNat)
    case atStart => exact ⟨0, Nat.zero_le _, rfl, fun j hj => by omega, Below.refl _ _⟩
    case round =>
      obtain ⟨i, hi1, rfl, hall, hb⟩ := hrel
      by_cases hin : i < n
      · obtain ⟨g, off, rfl, hg, hc⟩ := HW.out.resolve_left (by omega)
        have hci := hc i hin
        rw [← hb.cell (by exact hg)] at hci
        have HL : Hid (ps i < 18446744073709551616) := HP.out i hin
        have Hb : Hid (Below w.heap.size w wr) := hb
        have HA : Hid (∀ j, j < i → (plainN (ps j)).isSome = true) := hall
        clear hc hb hall
        go_wp2_with fail
        refine Calls.mono (isPlain_any (ps i) _ HL.out) ?_
        rintro e w1 ⟨rfl, rfl⟩
        clear hci
        cases hp : (plainN (ps i)).isSome
        · have HR : Hid (rightN ps n = 1) := right_bad hn1 hn9 hin hp
          have c2 : w1.cell? ⟨3, 0, none⟩ = some (.iface 229 (.pointer (some (A 0)))) := (HS.out.below Hb.out (Nat.le_refl _)).cell 0 (by omega)
          clear hp HA
          go_wp2
          go_ret
          rw [HR.out]
          exact ⟨_, rfl, ErrIs.one 0 (by omega), Hb.out⟩
        · have HA' : Hid (∀ j, j < i + 1 → (plainN (ps j)).isSome = true) := fun j hj => by
            by_cases h : j < i
            · exact HA.out j h
            · rw [show j = i by omega]; exact hp
          clear hp HA
          go_wp2
          go_roundw
          case rel => exact ⟨i + 1, by omega, by go_num, HA'.out, Hb.out⟩
          case measure => simp [intOf]; omega
      · have e : i = n := by omega
        subst e
        have HR : Hid (rightN ps i = 0) := right_all hn1 hn9 hall
        clear hall
        go_wp2
        go_ret
        rw [HR.out]
        exact ⟨_, rfl, .nil, hb⟩

theorem pointR_any (b : Nat) (w : World) (hb : b < 18446744073709551616) : Calls Tryz.prog 81 #[.int .u64 (b : Int)] w fun e w' => e = .returned (.agg #[.int .u64 (posW b : Int), .int .u64 (posW b : Int)]) ∧ Below w.heap.size w w' := by
  have HP : Hid (∀ W, Calls Tryz.prog 59 #[.int .u64 (b : Int)] W fun e w' => e = .returned (.int .u64 (posW b : Int)) ∧ w' = W) := fun W => positive_any b W hb
  clear hb
  generalize posW b = q at *
  go_enter Tryz.func81, Tryz.ntmps81
  go_wp2_with fail
  refine Calls.mono (HP.out _) ?_
  rintro e w1 ⟨rfl, rfl⟩
  go_wp2_with fail
  refine Calls.mono (HP.out _) ?_
  rintro e w1 ⟨rfl, rfl⟩
  go_wp2_with fail
  refine bodyPost_ret (v := .agg #[.int .u64 (q : Int), .int .u64 (q : Int)]) (by simp [results, Tryz.results81, go_sem]) rfl ?_
  exact ⟨rfl, (Below.refl _ _).alloc (Nat.le_refl _) _⟩

attribute [local go_sem] run_store_float
theorem pointF_any (b : Nat) (w : World) (hb : b < 18446744073709551616) (hp : (plainN b).isSome = true) : Calls Tryz.prog 167 #[.float .f64 b] w fun e w' => e = .returned (.agg #[.float .f64 (posW b), .float .f64 (posW b)]) ∧ Below w.heap.size w w' := by
  have HP : Hid (∀ W, Calls Tryz.prog 87 #[.float .f64 b] W fun e w' => e = .returned (.float .f64 (posW b)) ∧ w' = W) := fun W => oneZero_any b W hb hp
  clear hb hp
  generalize posW b = q at *
  go_enter Tryz.func167, Tryz.ntmps167
  go_wp2_with fail
  refine Calls.mono (HP.out _) ?_
  rintro e w1 ⟨rfl, rfl⟩
  go_wp2_with fail
  refine Calls.mono (HP.out _) ?_
  rintro e w1 ⟨rfl, rfl⟩
  go_wp2_with fail
  refine bodyPost_ret (v := .agg #[.float .f64 q, .float .f64 q]) (by simp [results, Tryz.results167, go_sem]) rfl ?_
  exact ⟨rfl, (Below.refl _ _).alloc (Nat.le_refl _) _⟩
end Go.Proofs.YtonhpkigoplmaaaGreatDoor
namespace Go.Proofs.YtonhpkigoplmaaaGreatDoor
open Go.RowKit Go.Extern
attribute [local go_sem] run_store_float

theorem horn_stick {ps : Nat → Nat} {n : Nat} {x1 x2 : Bool × Nat × Int} {j : Nat} (h : (hornN ps n x1 x2 j).2.2.1 ≠ 0) : ∀ d, hornN ps n x1 x2 (j + d) = hornN ps n x1 x2 j
  | 0 => rfl
  | d + 1 => by
    show hstep x1 x2 (posW (ps (n - 2 - (j + d)))) (hornN ps n x1 x2 (j + d)) = _
    rw [horn_stick h d]
    unfold hstep
    rw [if_pos h]

theorem ErrIs.zero {A : Nat → Addr} {w : World} {v : Value} {s : ByteArray} (h : ErrIs A w v 0 s) : v = .nilIface := by
  rcases h with ⟨h, -⟩ | ⟨j, -, -, h, -⟩ | ⟨j, -, b, -, -, h⟩
  · exact h
  · omega
  · omega

theorem op3_name {a1 a2 b1 b2 : Bool × Nat × Int} (h : (refOpN 3 a1 a2 b1 b2).2.2.1 = 0) : (refOpN 3 a1 a2 b1 b2).2.2.2 = ⟨#[]⟩ := by
  have e : refOpN 3 a1 a2 b1 b2 = nameT (aroundN (sumT a1 b1) (sumT a2 b2)) ⟨#[43]⟩ := rfl
  rw [e, aroundN_posV] at h ⊢
  rw [(name_code h).2.2]

theorem horn_name {ps : Nat → Nat} {n : Nat} {x1 x2 : Bool × Nat × Int} : ∀ j, (hornN ps n x1 x2 j).2.2.1 = 0 → (hornN ps n x1 x2 j).2.2.2 = ⟨#[]⟩
  | 0, _ => rfl
  | j + 1, h => by
    have e : hornN ps n x1 x2 (j + 1) = hstep x1 x2 (posW (ps (n - 2 - j))) (hornN ps n x1 x2 j) := rfl
    have ih := horn_name (ps := ps) (n := n) (x1 := x1) (x2 := x2) j
    rw [e] at h ⊢
    generalize hornN ps n x1 x2 j = r at *
    unfold hstep at h ⊢
    by_cases hc : r.2.2.1 ≠ 0
    · rw [if_pos hc] at h ⊢; exact ih h
    · rw [if_neg hc] at h ⊢
      by_cases hm : (refOpN 5 (plT r.1) (plT r.2.1) x1 x2).2.2.1 ≠ 0
      · rw [if_pos hm] at h; exact absurd h hm
      · rw [if_neg hm] at h ⊢; exact op3_name h

/-- The boxes of horner. -/
structure HSt (w W : World) (gr xl xh rl rh : Nat) : Prop where
  k3 : W.heap[w.heap.size]? = some (.cells #[.float .f64 xl, .float .f64 xh] 67 (0, 0))
  k4 : W.heap[w.heap.size + 1]? = some (.cells #[.float .f64 0, .float .f64 0] 67 (0, 0))
  kr : W.heap[gr]? = some (.cells #[.float .f64 rl, .float .f64 rh] 67 (0, 0))
  hb : Below w.heap.size w W
  lr : w.heap.size + 1 < gr
theorem HSt.below {w W W' : World} {gr xl xh rl rh : Nat} (m : HSt w W gr xl xh rl rh) (hb : Below W.heap.size W W') : HSt w W' gr xl xh rl rh := ⟨blk_below m.k3 hb, blk_below m.k4 hb, blk_below m.kr hb, m.hb.trans (hb.mono m.hb.size), m.lr⟩
theorem HSt.alloc {w W : World} {gr xl xh rl rh : Nat} (m : HSt w W gr xl xh rl rh) (o : Obj) : HSt w (W.alloc o) gr xl xh rl rh := m.below ((Below.refl _ _).alloc (Nat.le_refl _) o)
theorem HSt.drew {w W : World} {gr xl xh rl rh : Nat} (m : HSt w W gr xl xh rl rh) : HSt w W.drew gr xl xh rl rh := ⟨m.k3, m.k4, m.kr, m.hb.drew, m.lr⟩
theorem HSt.set {w W : World} {gr xl xh rl rh : Nat} (m : HSt w W gr xl xh rl rh) (x y : Nat) : HSt w ((W.setCell ⟨gr, 0, none⟩ (.float .f64 x)).setCell ⟨gr, 1, none⟩ (.float .f64 y)) gr xl xh x y := by
  have e := m.lr
  have e3 : w.heap.size ≠ gr := by omega
  have e4 : w.heap.size + 1 ≠ gr := by omega
  have e5 : w.heap.size ≤ gr := by omega
  exact ⟨blk_set_ne (blk_set_ne m.k3 e3) e3, blk_set_ne (blk_set_ne m.k4 e4) e4, blk_store2 m.kr, (m.hb.setCell (by exact e5) _).setCell (by exact e5) _, m.lr⟩

/-- The boxes of horner in a round: the product's box and the number beside them. -/
structure TSt (w W : World) (gr xl xh rl rh g9 m1 m2 g o q : Nat) : Prop where
  m : HSt w W gr xl xh rl rh
  k9 : W.heap[g9]? = some (.cells #[.float .f64 m1, .float .f64 m2] 67 (0, 0))
  c : W.cell? ⟨g, o, none⟩ = some (.float .f64 q)
  n9 : gr < g9
  lg : g < w.heap.size
theorem TSt.below {w W W' : World} {gr xl xh rl rh g9 m1 m2 g o q : Nat} (x : TSt w W gr xl xh rl rh g9 m1 m2 g o q) (hb : Below W.heap.size W W') : TSt w W' gr xl xh rl rh g9 m1 m2 g o q := ⟨x.m.below hb, blk_below x.k9 hb, by rw [hb.cell (by have := x.m.hb.size; have := x.lg; simp; omega)]; exact x.c, x.n9, x.lg⟩
theorem TSt.drew {w W : World} {gr xl xh rl rh g9 m1 m2 g o q : Nat} (x : TSt w W gr xl xh rl rh g9 m1 m2 g o q) : TSt w W.drew gr xl xh rl rh g9 m1 m2 g o q := ⟨x.m.drew, x.k9, x.c, x.n9, x.lg⟩
theorem TSt.set {w W : World} {gr xl xh rl rh g9 m1 m2 g o q : Nat} (x : TSt w W gr xl xh rl rh g9 m1 m2 g o q) (a b : Nat) : TSt w ((W.setCell ⟨gr, 0, none⟩ (.float .f64 a)).setCell ⟨gr, 1, none⟩ (.float .f64 b)) gr xl xh a b g9 m1 m2 g o q := by
  have e9 : g9 ≠ gr := by have := x.n9; omega
  have eg : g ≠ gr := by have := x.lg; have := x.m.lr; omega
  exact ⟨x.m.set a b, blk_set_ne (blk_set_ne x.k9 e9) e9, by rw [cell_set_ne eg, cell_set_ne eg]; exact x.c, x.n9, x.lg⟩
theorem TSt.cells {w W : World} {gr xl xh rl rh g9 m1 m2 g o q : Nat} (x : TSt w W gr xl xh rl rh g9 m1 m2 g o q) : W.cell? ⟨g9, 0, none⟩ = some (.float .f64 m1) ∧ W.cell? ⟨g9, 1, none⟩ = some (.float .f64 m2) ∧ W.cell? ⟨g, o, none⟩ = some (.float .f64 q) := by
  obtain ⟨a, b, -, -⟩ := blk2 x.k9
  exact ⟨a, b, x.c⟩

theorem ErrIs.alloc' {A : Nat → Addr} {w : World} {v : Value} {k : Nat} {s : ByteArray} (h : ErrIs A w v k s) (o : Obj) : ErrIs A (w.alloc o) v k s := h.below ((Below.refl _ _).alloc (Nat.le_refl _) o)
theorem ErrIs.set3 {A : Nat → Addr} {w : World} {v : Value} {k : Nat} {s : ByteArray} {g : Nat} {a b u u' : Value} (h : ErrIs A w v k s) (z : w.heap[g]? = some (.cells #[a, b] 67 (0, 0))) : ErrIs A ((w.setCell ⟨g, 0, none⟩ u).setCell ⟨g, 1, none⟩ u') v k s :=
  (h.set (BoxT.of z) (by decide)).set (BoxT.of z).set (by decide)

/-- What is known of Horner's steps, counted by how many numbers are left. -/
structure HornK (ps : Nat → Nat) (m : Nat) (xl xh : Nat) (H : Nat → Nat × Nat × Nat × ByteArray) : Prop where
  step : ∀ t, t < m → H t = hstep (plT xl) (plT xh) (posW (ps t)) (H (t + 1))
  first : H m = (posW (ps m), posW (ps m), 0, ⟨#[]⟩)
  iv : ∀ t, t ≤ m → (H t).2.2.1 = 0 → Iv (H t).1 (H t).2.1
  zero : ∀ t, t ≤ m → (H t).2.2.1 ≠ 0 → (H t).1 = 0 ∧ (H t).2.1 = 0
  stick : ∀ t, t ≤ m → (H t).2.2.1 ≠ 0 → H 0 = H t
  name : ∀ t, (H t).2.2.1 = 0 → (H t).2.2.2 = ⟨#[]⟩

theorem hornK {ps : Nat → Nat} {m xl xh : Nat} (hr : rightN ps (m + 1) = 0) (hp : ∀ i, i < m + 1 → ps i < 18446744073709551616) : HornK ps m xl xh (fun t => hornN ps (m + 1) (plT xl) (plT xh) (m - t)) := by
  refine ⟨fun t ht => ?_, ?_, fun t ht => (horn_iv hr hp (m - t) (by omega)).1, fun t ht => (horn_iv hr hp (m - t) (by omega)).2, fun t ht h => ?_, fun t => horn_name (m - t)⟩
  · show hornN ps (m + 1) (plT xl) (plT xh) (m - t) = hstep (plT xl) (plT xh) (posW (ps t)) (hornN ps (m + 1) (plT xl) (plT xh) (m - (t + 1)))
    have e : m - t = (m - (t + 1)) + 1 := by omega
    rw [e]
    show hstep (plT xl) (plT xh) (posW (ps (m + 1 - 2 - (m - (t + 1))))) _ = _
    rw [show m + 1 - 2 - (m - (t + 1)) = t by omega]
  · show hornN ps (m + 1) (plT xl) (plT xh) (m - m) = _
    rw [Nat.sub_self]
    rfl
  · show hornN ps (m + 1) (plT xl) (plT xh) (m - 0) = hornN ps (m + 1) (plT xl) (plT xh) (m - t)
    rw [show m - 0 = (m - t) + t by omega]
    exact horn_stick h t

theorem hstep_bad {x1 x2 : Bool × Nat × Int} {q : Nat} {r : Nat × Nat × Nat × ByteArray} (h0 : r.2.2.1 = 0) (h : (refOpN 5 (plT r.1) (plT r.2.1) x1 x2).2.2.1 ≠ 0) : hstep x1 x2 q r = refOpN 5 (plT r.1) (plT r.2.1) x1 x2 := by
  unfold hstep; rw [if_neg (by omega), if_pos h]
theorem hstep_good {x1 x2 : Bool × Nat × Int} {q : Nat} {r : Nat × Nat × Nat × ByteArray} (h0 : r.2.2.1 = 0) (h : (refOpN 5 (plT r.1) (plT r.2.1) x1 x2).2.2.1 = 0) : hstep x1 x2 q r = refOpN 3 (plT (refOpN 5 (plT r.1) (plT r.2.1) x1 x2).1) (plT (refOpN 5 (plT r.1) (plT r.2.1) x1 x2).2.1) (plT q) (plT q) := by
  unfold hstep; rw [if_neg (by omega), if_neg (by omega)]

set_option maxHeartbeats 4000000 in
set_option maxRecDepth 100000 in
theorem horner_any (A : Nat → Addr) (g off m c : Nat) (ps : Nat → Nat) (xl xh : Nat) (w : World) (hS : Sents A w) (hg : g < w.heap.size) (hc : ∀ i, i < m + 1 → w.cell? ⟨g, off + i, none⟩ = some (.float .f64 (ps i))) (hm9 : m < 9)
    (hP : ∀ i, i < m + 1 → ∀ W : World, Calls Tryz.prog 167 #[.float .f64 (ps i)] W fun e w' => e = .returned (.agg #[.float .f64 (posW (ps i)), .float .f64 (posW (ps i))]) ∧ Below W.heap.size W w')
    (hIP : ∀ i, i < m + 1 → Iv (posW (ps i)) (posW (ps i))) (ix : Iv xl xh) (H : Nat → Nat × Nat × Nat × ByteArray) (hH : HornK ps m xl xh H) :
    Calls Tryz.prog 134 #[.slice (some ⟨g, off, none⟩) (m + 1) c, .agg #[.float .f64 xl, .float .f64 xh]] w fun ev w' => OpR A w (H 0).1 (H 0).2.1 (H 0).2.2.1 (H 0).2.2.2 ev w' := by
  have HC : Hid (∀ i, i < m + 1 → w.cell? ⟨g, off + i, none⟩ = some (.float .f64 (ps i))) := hc
  have HG : Hid (g < w.heap.size) := hg
  have HS : Hid (Sents A w) := hS
  have HP : Hid (∀ i, i < m + 1 → ∀ W : World, Calls Tryz.prog 167 #[.float .f64 (ps i)] W fun e w' => e = .returned (.agg #[.float .f64 (posW (ps i)), .float .f64 (posW (ps i))]) ∧ Below W.heap.size W w') := hP
  have HIP : Hid (∀ i, i < m + 1 → Iv (posW (ps i)) (posW (ps i))) := hIP
  have HIX : Hid (Iv xl xh) := ix
  have HK : Hid (HornK ps m xl xh H) := hH
  have h0 : w.cell? ⟨g, off + m, none⟩ = some (.float .f64 (ps m)) := hc m (by omega)
  clear hS hP hIP ix hH hc
  go_enter Tryz.func134, Tryz.ntmps134
  go_wp2_with fail
  have B3 := blk_old (blk_new w (Obj.cells #[.float .f64 xl, .float .f64 xh] 67)) (Obj.cells #[.float .f64 0, .float .f64 0] 67)
  have B4 := blk_new (w.alloc (Obj.cells #[.float .f64 xl, .float .f64 xh] 67)) (Obj.cells #[.float .f64 0, .float .f64 0] 67)
  have hW : Below w.heap.size w ((w.alloc (Obj.cells #[.float .f64 xl, .float .f64 xh] 67)).alloc (Obj.cells #[.float .f64 0, .float .f64 0] 67)) := ((Below.refl _ _).alloc (Nat.le_refl _) _).alloc (by simp) _
  have hsz : w.heap.size + 1 < ((w.alloc (Obj.cells #[.float .f64 xl, .float .f64 xh] 67)).alloc (Obj.cells #[.float .f64 0, .float .f64 0] 67)).heap.size := by simp
  simp only [World.size_alloc] at B4
  generalize ((w.alloc (Obj.cells #[.float .f64 xl, .float .f64 xh] 67)).alloc (Obj.cells #[.float .f64 0, .float .f64 0] 67)) = W1 at *
  refine Calls.mono (HP.out m (by omega) _) ?_
  rintro e w1 ⟨rfl, hb1⟩
  have M1 : Hid (HSt w (w1.alloc (Obj.cells #[.float .f64 (posW (ps m)), .float .f64 (posW (ps m))] 67)) w1.heap.size xl xh (posW (ps m)) (posW (ps m))) := ⟨blk_old (blk_below B3 hb1) _, blk_old (blk_below B4 hb1) _, blk_new w1 _, (hW.trans (hb1.mono hW.size)).alloc (Nat.le_trans hW.size hb1.size) _, Nat.lt_of_lt_of_le hsz hb1.size⟩
  clear B3 B4 hW hsz hb1 h0
  go_wp2_with fail
  generalize hgr : w1.heap.size = gr at *
  generalize (w1.alloc (Obj.cells #[.float .f64 (posW (ps m)), .float .f64 (posW (ps m))] 67)) = W2 at *
  clear hgr
  go_loopw [8, 9, 10] (fun x _ _ wr => ∃ t : Nat, t ≤ m ∧ x = .int .i64 ((t : Int) - 1) ∧ (H t).2.2.1 = 0 ∧ HSt w wr gr xl xh (H t).1 (H t).2.1) (fun x _ _ _ => (intOf x + 1).toNat)
  case atStart =>
    refine ⟨m, Nat.le_refl _, by first | rfl | go_num, ?_, ?_⟩
    · rw [HK.out.first]
    · rw [HK.out.first]; exact M1.out
  case round =>
    obtain ⟨t, ht, rfl, hcode, hm⟩ := hrel
    clear M1
    cases t with
    | zero =>
      have HM : Hid (HSt w wr gr xl xh (H 0).1 (H 0).2.1) := hm
      have HCD : Hid ((H 0).2.2.1 = 0) := hcode
      obtain ⟨x0, x1, -, -⟩ := blk2 hm.kr
      obtain ⟨z0, z1, z2, z3⟩ := blk2 hm.k4
      clear hm hcode
      go_wp2_with fail
      obtain ⟨p0, p1, -, -⟩ := blk2 (blk_store2 (a := .float .f64 (H 0).1) (b := .float .f64 (H 0).2.1) HM.out.k4)
      refine bodyPost_ret (v := .tuple #[.agg #[.float .f64 (H 0).1, .float .f64 (H 0).2.1], .nilIface]) (by simp [results, Tryz.results134, go_sem, p0, p1]) rfl ?_
      refine ⟨_, rfl, ?_, (HM.out.hb.setCell (by simp) _).setCell (by simp) _⟩
      rw [HCD.out, HK.out.name 0 HCD.out]
      exact .nil
    | succ t =>
      have hct : wr.cell? ⟨g, off + t, none⟩ = some (.float .f64 (ps t)) := by rw [hm.hb.cell (by exact HG.out)]; exact HC.out t (by omega)
      have iv := HK.out.iv (t + 1) ht hcode
      have HB : Hid ((refOpN 5 (plT (H (t + 1)).1) (plT (H (t + 1)).2.1) (plT xl) (plT xh)).2.2.1 ≠ 0 → H t = refOpN 5 (plT (H (t + 1)).1) (plT (H (t + 1)).2.1) (plT xl) (plT xh)) := fun h => (HK.out.step t (by omega)).trans (hstep_bad hcode h)
      have HGD : Hid ((refOpN 5 (plT (H (t + 1)).1) (plT (H (t + 1)).2.1) (plT xl) (plT xh)).2.2.1 = 0 → H t = refOpN 3 (plT (refOpN 5 (plT (H (t + 1)).1) (plT (H (t + 1)).2.1) (plT xl) (plT xh)).1) (plT (refOpN 5 (plT (H (t + 1)).1) (plT (H (t + 1)).2.1) (plT xl) (plT xh)).2.1) (plT (posW (ps t))) (plT (posW (ps t)))) := fun h => (HK.out.step t (by omega)).trans (hstep_good hcode h)
      have HMUL : Hid (∀ W, Below w.heap.size w W → Calls Tryz.prog 46 #[.agg #[.float .f64 (H (t + 1)).1, .float .f64 (H (t + 1)).2.1], .agg #[.float .f64 xl, .float .f64 xh]] W fun ev w' => OpR A W (refOpN 5 (plT (H (t + 1)).1) (plT (H (t + 1)).2.1) (plT xl) (plT xh)).1 (refOpN 5 (plT (H (t + 1)).1) (plT (H (t + 1)).2.1) (plT xl) (plT xh)).2.1 (refOpN 5 (plT (H (t + 1)).1) (plT (H (t + 1)).2.1) (plT xl) (plT xh)).2.2.1 (refOpN 5 (plT (H (t + 1)).1) (plT (H (t + 1)).2.1) (plT xl) (plT xh)).2.2.2 ev w') := fun W hb => m_mul A iv HIX.out _ rfl W (HS.out.below hb (Nat.le_refl _))
      have HIM : Hid ((refOpN 5 (plT (H (t + 1)).1) (plT (H (t + 1)).2.1) (plT xl) (plT xh)).2.2.1 = 0 → Iv (refOpN 5 (plT (H (t + 1)).1) (plT (H (t + 1)).2.1) (plT xl) (plT xh)).1 (refOpN 5 (plT (H (t + 1)).1) (plT (H (t + 1)).2.1) (plT xl) (plT xh)).2.1) := iv_mul
      have HM : Hid (HSt w wr gr xl xh (H (t + 1)).1 (H (t + 1)).2.1) := hm
      have HPT : Hid (∀ W : World, Calls Tryz.prog 167 #[.float .f64 (ps t)] W fun e w' => e = .returned (.agg #[.float .f64 (posW (ps t)), .float .f64 (posW (ps t))]) ∧ Below W.heap.size W w') := HP.out t (by omega)
      have HIT : Hid (Iv (posW (ps t)) (posW (ps t))) := HIP.out t (by omega)
      obtain ⟨x0, x1, -, -⟩ := blk2 hm.kr
      obtain ⟨y0, y1, -, -⟩ := blk2 hm.k3
      clear hm hcode iv HP HIP HC
      generalize refOpN 5 (plT (H (t + 1)).1) (plT (H (t + 1)).2.1) (plT xl) (plT xh) = rm at *
      generalize (H (t + 1)).1 = rl at *
      generalize (H (t + 1)).2.1 = rh at *
      obtain ⟨m1, m2, m3, ms⟩ := rm
      simp only at HB HGD HMUL HIM
      go_wp2_with fail
      refine Calls.mono (HMUL.out _ HM.out.hb) ?_
      intro e w3 hR
      unfold OpR at hR
      obtain ⟨v, rfl, hE, hb3⟩ := hR
      have M3 : Hid (HSt w w3 gr xl xh rl rh) := HM.out.below hb3
      have HE : Hid (ErrIs A w3 v m3 ms) := hE
      have hct3 : w3.cell? ⟨g, off + t, none⟩ = some (.float .f64 (ps t)) := by rw [hb3.cell (by have := HM.out.hb.size; have := HG.out; simp; omega)]; exact hct
      clear hE hb3 hct x0 x1 y0 y1 HM HMUL
      have HF : Hid (m3 ≠ 0 → (H 0).1 = 0 ∧ (H 0).2.1 = 0 ∧ (H 0).2.2.1 = m3 ∧ (H 0).2.2.2 = ms) := fun h => by
        have e := HB.out h
        have hc : (H t).2.2.1 ≠ 0 := by rw [e]; exact h
        obtain ⟨z1, z2⟩ := HK.out.zero t (by omega) hc
        rw [HK.out.stick t (by omega) hc]
        exact ⟨z1, z2, by rw [e], by rw [e]⟩
      by_cases hz : m3 = 0
      · subst hz
        obtain rfl := HE.out.zero
        have HGE := HGD.out rfl
        have hfin : (H t).2.2.1 ≠ 0 → (H 0).1 = 0 ∧ (H 0).2.1 = 0 ∧ (H 0).2.2.1 = (H t).2.2.1 ∧ (H 0).2.2.2 = (H t).2.2.2 := fun h => by
          obtain ⟨z1, z2⟩ := HK.out.zero t (by omega) h
          rw [HK.out.stick t (by omega) h]
          exact ⟨z1, z2, rfl, rfl⟩
        have HADD : Hid (∀ W, Below w.heap.size w W → Calls Tryz.prog 44 #[.agg #[.float .f64 m1, .float .f64 m2], .agg #[.float .f64 (posW (ps t)), .float .f64 (posW (ps t))]] W fun ev w' => OpR A W (H t).1 (H t).2.1 (H t).2.2.1 (H t).2.2.2 ev w') := fun W hb => m_add A (HIM.out rfl) HIT.out _ HGE W (HS.out.below hb (Nat.le_refl _))
        have HFN : Hid ((H t).2.2.1 ≠ 0 → (H 0).1 = 0 ∧ (H 0).2.1 = 0 ∧ (H 0).2.2.1 = (H t).2.2.1 ∧ (H 0).2.2.2 = (H t).2.2.2) := hfin
        have T3 : Hid (TSt w (w3.alloc (Obj.cells #[.float .f64 m1, .float .f64 m2] 67)) gr xl xh rl rh w3.heap.size m1 m2 g (off + t) (ps t)) := ⟨M3.out.alloc _, blk_new w3 _, by rw [World.cell?_of_block (Below.heap_alloc _ _ _ (by have := M3.out.hb.size; have := HG.out; simp; omega))]; exact hct3, lt_of_row M3.out.kr, HG.out⟩
        clear HGE hfin hct3 HF HB HGD HIM HIT M3 HE
        generalize posW (ps t) = q at *
        generalize hHt : H t = ra at *
        obtain ⟨a1, a2, a3, as_⟩ := ra
        simp only at HADD HFN
        have ti1 : (t : Int) < (m : Int) + 1 := by omega
        have ti2 : t < m + 1 := by omega
        have ti3 : (0 : Int) ≤ (t : Int) := by omega
        go_wp2_with fail
        generalize w3.heap.size = g9 at *
        generalize (w3.alloc (Obj.cells #[.float .f64 m1, .float .f64 m2] 67)) = W4 at *
        have iN : Hid (TSt w W4.drew gr xl xh rl rh g9 m1 m2 g (off + t) (ps t)) := T3.out.drew
        clear T3
        go_region_held3 (fun W => W.cell? ⟨g9, 0, none⟩ = some (.float .f64 m1) ∧ W.cell? ⟨g9, 1, none⟩ = some (.float .f64 m2) ∧ W.cell? ⟨g, off + t, none⟩ = some (.float .f64 (ps t))) (first | with_reducible exact iN.out.cells | with_reducible exact (iN.out.set _ _).cells)
          (first
            | (go_at_call 167; with_reducible (refine Calls.mono (HPT.out _) ?_); rintro e v4 ⟨rfl, hbk⟩
               have iN : Hid (TSt w v4 gr xl xh rl rh g9 m1 m2 g (off + t) (ps t)) := iN.out.below hbk
               clear hbk)
            | (go_at_call 44; with_reducible (refine Calls.mono (HADD.out _ ?_) ?_); (with_reducible exact iN.out.m.hb); (intro e v5 hR); (unfold OpR at hR); (obtain ⟨v, rfl, hE, hbk⟩ := hR)
               have HE : Hid (ErrIs A v5 v a3 as_) := hE
               have iN : Hid (TSt w v5 gr xl xh rl rh g9 m1 m2 g (off + t) (ps t)) := iN.out.below hbk
               obtain ⟨zc0, zc1, zc2, zc3⟩ := blk2 iN.out.m.kr
               clear hbk hE))
        have T5 : Hid (TSt w ((v5.setCell ⟨gr, 0, none⟩ (.float .f64 a1)).setCell ⟨gr, 1, none⟩ (.float .f64 a2)) gr xl xh a1 a2 g9 m1 m2 g (off + t) (ps t)) := iN.out.set _ _
        have HE5 : Hid (ErrIs A ((v5.setCell ⟨gr, 0, none⟩ (.float .f64 a1)).setCell ⟨gr, 1, none⟩ (.float .f64 a2)) v a3 as_) := HE.out.set3 iN.out.m.kr
        clear iN HE
        generalize ((v5.setCell ⟨gr, 0, none⟩ (.float .f64 a1)).setCell ⟨gr, 1, none⟩ (.float .f64 a2)) = W6 at *
        by_cases hz : a3 = 0
        · subst hz
          obtain rfl := HE5.out.zero
          clear HADD
          go_wp2_with fail
          go_roundw
          case rel => exact ⟨t, by omega, by go_num, by rw [hHt], by rw [hHt]; exact T5.out.m⟩
          case measure => first | (simp [intOf]; done) | (simp [intOf]; omega)
        · obtain ⟨f1, f2, f3, f4⟩ := HFN.out hz
          have hE := HE5.out
          have HE6 : Hid (ErrIs A ((W6.setCell ⟨w.heap.size + 1, 0, none⟩ (.float .f64 0)).setCell ⟨w.heap.size + 1, 1, none⟩ (.float .f64 0)) v a3 as_) := HE5.out.set3 T5.out.m.k4
          obtain ⟨z0, z1, z2, z3⟩ := blk2 T5.out.m.k4
          have HFF : Hid ((H 0).1 = 0 ∧ (H 0).2.1 = 0 ∧ (H 0).2.2.1 = a3 ∧ (H 0).2.2.2 = as_) := ⟨f1, f2, f3, f4⟩
          clear HFN HE5 HADD f1 f2 f3 f4
          rcases hE with ⟨rfl, rfl, rfl⟩ | ⟨k, hk, rfl, rfl, rfl⟩ | ⟨k, hk, b, hr, rfl, rfl⟩
          · exact absurd rfl hz
          ·
            go_wp2_with fail
            obtain ⟨p0, p1, -, -⟩ := blk2 (blk_store2 (a := .float .f64 0) (b := .float .f64 0) T5.out.m.k4)
            refine bodyPost_ret (v := .tuple #[.agg #[.float .f64 0, .float .f64 0], .iface 229 (.pointer (some (A k)))]) (by simp [results, Tryz.results134, go_sem, p0, p1]) rfl ?_
            obtain ⟨f1, f2, f3, f4⟩ := HFF.out
            rw [f1, f2, f3, f4]
            exact ⟨_, rfl, HE6.out, (T5.out.m.hb.setCell (by simp) _).setCell (by simp) _⟩
          ·
            go_wp2_with fail
            obtain ⟨p0, p1, -, -⟩ := blk2 (blk_store2 (a := .float .f64 0) (b := .float .f64 0) T5.out.m.k4)
            refine bodyPost_ret (v := .tuple #[.agg #[.float .f64 0, .float .f64 0], .iface 136 (.pointer (some ⟨b, 0, none⟩))]) (by simp [results, Tryz.results134, go_sem, p0, p1]) rfl ?_
            obtain ⟨f1, f2, f3, f4⟩ := HFF.out
            rw [f1, f2, f3, f4]
            exact ⟨_, rfl, HE6.out, (T5.out.m.hb.setCell (by simp) _).setCell (by simp) _⟩
      · have hFF := HF.out hz
        have HFF : Hid ((H 0).1 = 0 ∧ (H 0).2.1 = 0 ∧ (H 0).2.2.1 = m3 ∧ (H 0).2.2.2 = ms) := hFF
        have hE := HE.out
        have HE6 : Hid (ErrIs A (((w3.setCell ⟨w.heap.size + 1, 0, none⟩ (.float .f64 0)).setCell ⟨w.heap.size + 1, 1, none⟩ (.float .f64 0)).alloc (Obj.cells #[.float .f64 m1, .float .f64 m2] 67)) v m3 ms) := (HE.out.set3 M3.out.k4).alloc' _
        obtain ⟨z0, z1, z2, z3⟩ := blk2 M3.out.k4
        have lz := lt_of_row M3.out.k4
        clear HF HB HGD HIM HIT HPT HE hct3 hFF
        rcases hE with ⟨rfl, rfl, rfl⟩ | ⟨k, hk, rfl, rfl, rfl⟩ | ⟨k, hk, b, hr, rfl, rfl⟩
        · exact absurd rfl hz
        ·
          go_wp2_with fail
          obtain ⟨p0, p1, -, -⟩ := blk2 (blk_old (blk_store2 (a := .float .f64 0) (b := .float .f64 0) M3.out.k4) (Obj.cells #[.float .f64 m1, .float .f64 m2] 67))
          refine bodyPost_ret (v := .tuple #[.agg #[.float .f64 0, .float .f64 0], .iface 229 (.pointer (some (A k)))]) (by simp [results, Tryz.results134, go_sem, p0, p1]) rfl ?_
          obtain ⟨f1, f2, f3, f4⟩ := HFF.out
          rw [f1, f2, f3, f4]
          exact ⟨_, rfl, HE6.out, ((M3.out.hb.setCell (by simp) _).setCell (by simp) _).alloc (by have := M3.out.hb.size; simp; omega) _⟩
        ·
          go_wp2_with fail
          obtain ⟨p0, p1, -, -⟩ := blk2 (blk_old (blk_store2 (a := .float .f64 0) (b := .float .f64 0) M3.out.k4) (Obj.cells #[.float .f64 m1, .float .f64 m2] 67))
          refine bodyPost_ret (v := .tuple #[.agg #[.float .f64 0, .float .f64 0], .iface 136 (.pointer (some ⟨b, 0, none⟩))]) (by simp [results, Tryz.results134, go_sem, p0, p1]) rfl ?_
          obtain ⟨f1, f2, f3, f4⟩ := HFF.out
          rw [f1, f2, f3, f4]
          exact ⟨_, rfl, HE6.out, ((M3.out.hb.setCell (by simp) _).setCell (by simp) _).alloc (by have := M3.out.hb.size; simp; omega) _⟩
end Go.Proofs.YtonhpkigoplmaaaGreatDoor
