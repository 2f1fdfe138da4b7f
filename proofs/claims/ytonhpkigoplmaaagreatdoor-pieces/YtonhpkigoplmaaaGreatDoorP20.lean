/-
  PolyR, ApR, ApF, ApP, ApL, PolyH, PolyF, PieceR.
-/
import Derived.Test.YtonhpkigoplmaaaGreatDoorP19
import Derived.Test.YtonhpkigoplmaaaGreatDoorP12
import Derived.Test.YtonhpkigoplmaaaGreatDoorP17
import Derived.Test.YtonhpkigoplmaaaGreatDoorP18
namespace Go.Proofs.YtonhpkigoplmaaaGreatDoor
open Go.RowKit Go.Extern

theorem right_all {ps : Nat → Nat} {n : Nat} (h1 : 1 ≤ n) (h2 : n ≤ 9) (h : ∀ i, i < n → (plainN (ps i)).isSome = true) : rightN ps n = 0 := by
  unfold rightN
  rw [if_neg (by omega), if_pos]
  rw [List.all_eq_true]
  intro i hi
  exact h i (List.mem_range.1 hi)

theorem right_bad {ps : Nat → Nat} {n i : Nat} (h1 : 1 ≤ n) (h2 : n ≤ 9) (hi : i < n) (h : (plainN (ps i)).isSome = false) : rightN ps n = 1 := by
  unfold rightN
  rw [if_neg (by omega), if_neg]
  rw [List.all_eq_true]
  intro hc
  have := hc i (List.mem_range.2 hi)
  rw [h] at this
  cases this

theorem right_shape {ps : Nat → Nat} {n : Nat} (h : n < 1 ∨ 9 < n) : rightN ps n = 8 := by
  unfold rightN; rw [if_pos h]

set_option maxHeartbeats 1000000 in
set_option maxRecDepth 100000 in
theorem right_any (ao : Option Addr) (n c : Nat) (ps : Nat → Nat) (w : World) (h : WdV w ao n ps) (hn : n * 8 ≤ 140737488355328) :
    Calls Tryz.prog 80 #[.slice ao n c] w fun e w' => e = .returned (.int .i64 (rightN ps n : Int)) ∧ Below w.heap.size w w' := by
  by_cases hs : n < 1 ∨ 9 < n
  · rw [right_shape hs]
    rcases hs with hs | hs
    · obtain rfl : n = 0 := by omega
      go_enter Tryz.func80, Tryz.ntmps80
      go_wp2
      go_ret
      exact ⟨rfl, Below.refl _ _⟩
    · have h9 : (9 : Int) < n := by omega
      have h1 : ¬ (n : Int) < 1 := by omega
      clear h
      go_enter Tryz.func80, Tryz.ntmps80
      go_wp2
      go_ret
      exact ⟨rfl, Below.refl _ _⟩
  · have h9 : ¬ (9 : Int) < n := by omega
    have h1 : ¬ (n : Int) < 1 := by omega
    have HW : Hid (WdV w ao n ps) := h
    have hn1 : 1 ≤ n := by omega
    have hn9 : n ≤ 9 := by omega
    clear h hs
    go_enter Tryz.func80, Tryz.ntmps80
    go_wp2
    go_loopw [3, 4, 5] (fun x _ _ wr => ∃ i : Nat, i ≤ n ∧ x = .int .i64 (i : Int) ∧ (∀ j, j < i → (plainN (ps j)).isSome = true) ∧ Below w.heap.size w wr) (fun x _ _ _ => n - (intOf x).toNat)
    case atStart => exact ⟨0, Nat.zero_le _, rfl, fun j hj => by omega, Below.refl _ _⟩
    case round =>
      obtain ⟨i, hi1, rfl, hall, hb⟩ := hrel
      by_cases hin : i < n
      · obtain ⟨g, off, rfl, hg, hc⟩ := HW.out.2.resolve_left (by omega)
        have hci := hc i hin
        rw [← hb.cell (by exact hg)] at hci
        have hlt := HW.out.1 i hin
        have Hb : Hid (Below w.heap.size w wr) := hb
        have HA : Hid (∀ j, j < i → (plainN (ps j)).isSome = true) := hall
        clear hc hb hall
        go_wp2_with fail
        refine Calls.mono (plain_any (ps i) _ hlt) ?_
        rintro e w1 ⟨x, rfl, ⟨xo, xn, xc, rfl, -, -⟩, hb1⟩
        have HB1 : Hid (Below w.heap.size w w1) := Hb.out.trans (hb1.mono Hb.out.size)
        clear hb1 Hb hci hlt
        cases hp : (plainN (ps i)).isSome
        · have HR : Hid (rightN ps n = 1) := right_bad hn1 hn9 hin hp
          clear hp HA
          go_wp2
          go_ret
          rw [HR.out]
          exact ⟨rfl, HB1.out.alloc HB1.out.size _⟩
        · have HA' : Hid (∀ j, j < i + 1 → (plainN (ps j)).isSome = true) := fun j hj => by
            by_cases h : j < i
            · exact HA.out j h
            · rw [show j = i by omega]; exact hp
          clear hp HA
          go_wp2
          go_roundw
          case rel => exact ⟨i + 1, by omega, by go_num, HA'.out, HB1.out.alloc HB1.out.size _⟩
          case measure => simp [intOf]; omega
      · have e : i = n := by omega
        subst e
        have HR : Hid (rightN ps i = 0) := right_all hn1 hn9 hall
        clear hall
        go_wp2
        go_ret
        rw [HR.out]
        exact ⟨rfl, hb⟩

set_option maxHeartbeats 1000000 in
set_option maxRecDepth 100000 in
theorem check_any (A : Nat → Addr) (ao : Option Addr) (n c : Nat) (ps : Nat → Nat) (w : World) (hS : Sents A w) (h : FlV w ao n ps) (hp : ∀ i, i < n → ps i < 18446744073709551616) (hn : n * 8 ≤ 140737488355328) :
    Calls Tryz.prog 102 #[.slice ao n c] w fun e w' => ∃ v, e = .returned v ∧ ErrIs A w' v (rightN ps n) ⟨#[]⟩ ∧ Below w.heap.size w w' := by
  by_cases hs : n < 1 ∨ 9 < n
  · rw [right_shape hs]
    have c2 : w.cell? ⟨7, 0, none⟩ = some (.iface 229 (.pointer (some (A 7)))) := hS.cell 7 (by omega)
    have HR : Hid (∀ w', ErrIs A w' (.iface 229 (.pointer (some (A 7)))) 8 ⟨#[]⟩) := fun w' => ErrIs.one 7 (by omega)
    clear h hp hS
    rcases hs with hs | hs
    · obtain rfl : n = 0 := by omega
      go_enter Tryz.func102, Tryz.ntmps102
      go_wp2
      go_ret
      exact ⟨_, rfl, HR.out _, Below.refl _ _⟩
    · have h9 : (9 : Int) < n := by omega
      have h1 : ¬ (n : Int) = 0 := by omega
      go_enter Tryz.func102, Tryz.ntmps102
      go_wp2
      go_ret
      exact ⟨_, rfl, HR.out _, Below.refl _ _⟩
  · have h9 : ¬ (9 : Int) < n := by omega
    have h1 : ¬ (n : Int) = 0 := by omega
    have HW : Hid (FlV w ao n ps) := h
    have HP : Hid (∀ i, i < n → ps i < 18446744073709551616) := hp
    have HS : Hid (Sents A w) := hS
    have hn1 : 1 ≤ n := by omega
    have hn9 : n ≤ 9 := by omega
    clear h hs hp hS
    go_enter Tryz.func102, Tryz.ntmps102
    go_wp2
    go_loopw [4, 16] (fun _ x wr => ∃ i : Nat, i ≤ n ∧ x = .int .i64 (i : Int) ∧ (∀ j, j < i → (plainN (ps j)).isSome = true) ∧ Below w.heap.size w wr) (fun _ x _ => n - (intOf x).toNat)
    case atStart => exact ⟨0, Nat.zero_le _, rfl, fun j hj => by omega, Below.refl _ _⟩
    case round =>
      obtain ⟨i, hi1, rfl, hall, hb⟩ := hrel
      by_cases hin : i < n
      · obtain ⟨g, off, rfl, hg, hc⟩ := HW.out.resolve_left (by omega)
        have hci := hc i hin
        rw [← hb.cell (by exact hg)] at hci
        have HL : Hid (ps i < 18446744073709551616) := HP.out i hin
        have Hb : Hid (Below w.heap.size w wr) := hb
        have HA : Hid (∀ j, j < i → (plainN (ps j)).isSome = true) := hall
        clear hc hb hall
        go_wp2_with fail
        refine Calls.mono (isPlain_any (ps i) _ HL.out) ?_
        rintro e w1 ⟨rfl, rfl⟩
        clear hci
        cases hp : (plainN (ps i)).isSome
        · have HR : Hid (rightN ps n = 1) := right_bad hn1 hn9 hin hp
          have c2 : w1.cell? ⟨3, 0, none⟩ = some (.iface 229 (.pointer (some (A 0)))) := (HS.out.below Hb.out (Nat.le_refl _)).cell 0 (by omega)
          clear hp HA
          go_wp2
          go_ret
          rw [HR.out]
          exact ⟨_, rfl, ErrIs.one 0 (by omega), Hb.out⟩
        · have HA' : Hid (∀ j, j < i + 1 → (plainN (ps j)).isSome = true) := fun j hj => by
            by_cases h : j < i
            · exact HA.out j h
            · rw [show j = i by omega]; exact hp
          clear hp HA
          go_wp2
          go_roundw
          case rel => exact ⟨i + 1, by omega, by go_num, HA'.out, Hb.out⟩
          case measure => simp [intOf]; omega
      · have e : i = n := by omega
        subst e
        have HR : Hid (rightN ps i = 0) := right_all hn1 hn9 hall
        clear hall
        go_wp2
        go_ret
        rw [HR.out]
        exact ⟨_, rfl, .nil, hb⟩

theorem pointR_any (b : Nat) (w : World) (hb : b < 18446744073709551616) : Calls Tryz.prog 81 #[.int .u64 (b : Int)] w fun e w' => e = .returned (.agg #[.int .u64 (posW b : Int), .int .u64 (posW b : Int)]) ∧ Below w.heap.size w w' := by
  have HP : Hid (∀ W, Calls Tryz.prog 59 #[.int .u64 (b : Int)] W fun e w' => e = .returned (.int .u64 (posW b : Int)) ∧ w' = W) := fun W => positive_any b W hb
  clear hb
  generalize posW b = q at *
  go_enter Tryz.func81, Tryz.ntmps81
  go_wp2_with fail
  refine Calls.mono (HP.out _) ?_
  rintro e w1 ⟨rfl, rfl⟩
  go_wp2_with fail
  refine Calls.mono (HP.out _) ?_
  rintro e w1 ⟨rfl, rfl⟩
  go_wp2_with fail
  refine bodyPost_ret (v := .agg #[.int .u64 (q : Int), .int .u64 (q : Int)]) (by simp [results, Tryz.results81, go_sem]) rfl ?_
  exact ⟨rfl, (Below.refl _ _).alloc (Nat.le_refl _) _⟩

attribute [local go_sem] run_store_float
theorem pointF_any (b : Nat) (w : World) (hb : b < 18446744073709551616) (hp : (plainN b).isSome = true) : Calls Tryz.prog 167 #[.float .f64 b] w fun e w' => e = .returned (.agg #[.float .f64 (posW b), .float .f64 (posW b)]) ∧ Below w.heap.size w w' := by
  have HP : Hid (∀ W, Calls Tryz.prog 87 #[.float .f64 b] W fun e w' => e = .returned (.float .f64 (posW b)) ∧ w' = W) := fun W => oneZero_any b W hb hp
  clear hb hp
  generalize posW b = q at *
  go_enter Tryz.func167, Tryz.ntmps167
  go_wp2_with fail
  refine Calls.mono (HP.out _) ?_
  rintro e w1 ⟨rfl, rfl⟩
  go_wp2_with fail
  refine Calls.mono (HP.out _) ?_
  rintro e w1 ⟨rfl, rfl⟩
  go_wp2_with fail
  refine bodyPost_ret (v := .agg #[.float .f64 q, .float .f64 q]) (by simp [results, Tryz.results167, go_sem]) rfl ?_
  exact ⟨rfl, (Below.refl _ _).alloc (Nat.le_refl _) _⟩
end Go.Proofs.YtonhpkigoplmaaaGreatDoor
namespace Go.Proofs.YtonhpkigoplmaaaGreatDoor
open Go.RowKit

end Go.Proofs.YtonhpkigoplmaaaGreatDoor
namespace Go.Proofs.YtonhpkigoplmaaaGreatDoor
open Go.RowKit Go.Extern Ieee
attribute [local go_sem] run_store_float

end Go.Proofs.YtonhpkigoplmaaaGreatDoor
namespace Go.Proofs.YtonhpkigoplmaaaGreatDoor
open Go.RowKit Go.Extern Ieee
attribute [local go_sem] run_store_float

end Go.Proofs.YtonhpkigoplmaaaGreatDoor
namespace Go.Proofs.YtonhpkigoplmaaaGreatDoor
open Go.RowKit Go.Extern Ieee

theorem m_add (A : Nat → Addr) {al ah bl_ bh : Nat} (i : Iv al ah) (j : Iv bl_ bh) (r : Nat × Nat × Nat × ByteArray) (hr : r = refOpN 3 (plT al) (plT ah) (plT bl_) (plT bh)) : ∀ w, Sents A w → Calls Tryz.prog 44 #[.agg #[.float .f64 al, .float .f64 ah], .agg #[.float .f64 bl_, .float .f64 bh]] w fun ev w' => OpR A w r.1 r.2.1 r.2.2.1 r.2.2.2 ev w' := by
  have hc := opCase_any A 3 i j r hr
  rcases hc with ⟨hk, -⟩ | ⟨hk, -⟩ | ⟨hk, -⟩ | ⟨hk, h⟩ | ⟨hk, -⟩ | ⟨hk, -⟩ | ⟨hk, -⟩ | ⟨hk, -⟩ | ⟨h0, h1, h2, h3, h4, h5, h6, h7, -⟩ <;> first | exact h | omega

theorem m_mul (A : Nat → Addr) {al ah bl_ bh : Nat} (i : Iv al ah) (j : Iv bl_ bh) (r : Nat × Nat × Nat × ByteArray) (hr : r = refOpN 5 (plT al) (plT ah) (plT bl_) (plT bh)) : ∀ w, Sents A w → Calls Tryz.prog 46 #[.agg #[.float .f64 al, .float .f64 ah], .agg #[.float .f64 bl_, .float .f64 bh]] w fun ev w' => OpR A w r.1 r.2.1 r.2.2.1 r.2.2.2 ev w' := by
  have hc := opCase_any A 5 i j r hr
  rcases hc with ⟨hk, -⟩ | ⟨hk, -⟩ | ⟨hk, -⟩ | ⟨hk, -⟩ | ⟨hk, -⟩ | ⟨hk, h⟩ | ⟨hk, -⟩ | ⟨hk, -⟩ | ⟨h0, h1, h2, h3, h4, h5, h6, h7, -⟩ <;> first | exact h | omega

end Go.Proofs.YtonhpkigoplmaaaGreatDoor
namespace Go.Proofs.YtonhpkigoplmaaaGreatDoor
open Go.RowKit Go.Extern
attribute [local go_sem] run_store_float

theorem horn_stick {ps : Nat → Nat} {n : Nat} {x1 x2 : Bool × Nat × Int} {j : Nat} (h : (hornN ps n x1 x2 j).2.2.1 ≠ 0) : ∀ d, hornN ps n x1 x2 (j + d) = hornN ps n x1 x2 j
  | 0 => rfl
  | d + 1 => by
    show hstep x1 x2 (posW (ps (n - 2 - (j + d)))) (hornN ps n x1 x2 (j + d)) = _
    rw [horn_stick h d]
    unfold hstep
    rw [if_pos h]

theorem ErrIs.zero {A : Nat → Addr} {w : World} {v : Value} {s : ByteArray} (h : ErrIs A w v 0 s) : v = .nilIface := by
  rcases h with ⟨h, -⟩ | ⟨j, -, -, h, -⟩ | ⟨j, -, b, -, -, h⟩
  · exact h
  · omega
  · omega

theorem op3_name {a1 a2 b1 b2 : Bool × Nat × Int} (h : (refOpN 3 a1 a2 b1 b2).2.2.1 = 0) : (refOpN 3 a1 a2 b1 b2).2.2.2 = ⟨#[]⟩ := by
  have e : refOpN 3 a1 a2 b1 b2 = nameT (aroundN (sumT a1 b1) (sumT a2 b2)) ⟨#[43]⟩ := rfl
  rw [e, aroundN_posV] at h ⊢
  rw [(name_code h).2.2]

theorem horn_name {ps : Nat → Nat} {n : Nat} {x1 x2 : Bool × Nat × Int} : ∀ j, (hornN ps n x1 x2 j).2.2.1 = 0 → (hornN ps n x1 x2 j).2.2.2 = ⟨#[]⟩
  | 0, _ => rfl
  | j + 1, h => by
    have e : hornN ps n x1 x2 (j + 1) = hstep x1 x2 (posW (ps (n - 2 - j))) (hornN ps n x1 x2 j) := rfl
    have ih := horn_name (ps := ps) (n := n) (x1 := x1) (x2 := x2) j
    rw [e] at h ⊢
    generalize hornN ps n x1 x2 j = r at *
    unfold hstep at h ⊢
    by_cases hc : r.2.2.1 ≠ 0
    · rw [if_pos hc] at h ⊢; exact ih h
    · rw [if_neg hc] at h ⊢
      by_cases hm : (refOpN 5 (plT r.1) (plT r.2.1) x1 x2).2.2.1 ≠ 0
      · rw [if_pos hm] at h; exact absurd h hm
      · rw [if_neg hm] at h ⊢; exact op3_name h

/-- The boxes of horner. -/
structure HSt (w W : World) (gr xl xh rl rh : Nat) : Prop where
  k3 : W.heap[w.heap.size]? = some (.cells #[.float .f64 xl, .float .f64 xh] 67 (0, 0))
  k4 : W.heap[w.heap.size + 1]? = some (.cells #[.float .f64 0, .float .f64 0] 67 (0, 0))
  kr : W.heap[gr]? = some (.cells #[.float .f64 rl, .float .f64 rh] 67 (0, 0))
  hb : Below w.heap.size w W
  lr : w.heap.size + 1 < gr
theorem HSt.below {w W W' : World} {gr xl xh rl rh : Nat} (m : HSt w W gr xl xh rl rh) (hb : Below W.heap.size W W') : HSt w W' gr xl xh rl rh := ⟨blk_below m.k3 hb, blk_below m.k4 hb, blk_below m.kr hb, m.hb.trans (hb.mono m.hb.size), m.lr⟩
theorem HSt.alloc {w W : World} {gr xl xh rl rh : Nat} (m : HSt w W gr xl xh rl rh) (o : Obj) : HSt w (W.alloc o) gr xl xh rl rh := m.below ((Below.refl _ _).alloc (Nat.le_refl _) o)
theorem HSt.drew {w W : World} {gr xl xh rl rh : Nat} (m : HSt w W gr xl xh rl rh) : HSt w W.drew gr xl xh rl rh := ⟨m.k3, m.k4, m.kr, m.hb.drew, m.lr⟩
theorem HSt.set {w W : World} {gr xl xh rl rh : Nat} (m : HSt w W gr xl xh rl rh) (x y : Nat) : HSt w ((W.setCell ⟨gr, 0, none⟩ (.float .f64 x)).setCell ⟨gr, 1, none⟩ (.float .f64 y)) gr xl xh x y := by
  have e := m.lr
  have e3 : w.heap.size ≠ gr := by omega
  have e4 : w.heap.size + 1 ≠ gr := by omega
  have e5 : w.heap.size ≤ gr := by omega
  exact ⟨blk_set_ne (blk_set_ne m.k3 e3) e3, blk_set_ne (blk_set_ne m.k4 e4) e4, blk_store2 m.kr, (m.hb.setCell (by exact e5) _).setCell (by exact e5) _, m.lr⟩

/-- The boxes of horner in a round: the product's box and the number beside them. -/
structure TSt (w W : World) (gr xl xh rl rh g9 m1 m2 g o q : Nat) : Prop where
  m : HSt w W gr xl xh rl rh
  k9 : W.heap[g9]? = some (.cells #[.float .f64 m1, .float .f64 m2] 67 (0, 0))
  c : W.cell? ⟨g, o, none⟩ = some (.float .f64 q)
  n9 : gr < g9
  lg : g < w.heap.size
theorem TSt.below {w W W' : World} {gr xl xh rl rh g9 m1 m2 g o q : Nat} (x : TSt w W gr xl xh rl rh g9 m1 m2 g o q) (hb : Below W.heap.size W W') : TSt w W' gr xl xh rl rh g9 m1 m2 g o q := ⟨x.m.below hb, blk_below x.k9 hb, by rw [hb.cell (by have := x.m.hb.size; have := x.lg; simp; omega)]; exact x.c, x.n9, x.lg⟩
theorem TSt.drew {w W : World} {gr xl xh rl rh g9 m1 m2 g o q : Nat} (x : TSt w W gr xl xh rl rh g9 m1 m2 g o q) : TSt w W.drew gr xl xh rl rh g9 m1 m2 g o q := ⟨x.m.drew, x.k9, x.c, x.n9, x.lg⟩
theorem TSt.set {w W : World} {gr xl xh rl rh g9 m1 m2 g o q : Nat} (x : TSt w W gr xl xh rl rh g9 m1 m2 g o q) (a b : Nat) : TSt w ((W.setCell ⟨gr, 0, none⟩ (.float .f64 a)).setCell ⟨gr, 1, none⟩ (.float .f64 b)) gr xl xh a b g9 m1 m2 g o q := by
  have e9 : g9 ≠ gr := by have := x.n9; omega
  have eg : g ≠ gr := by have := x.lg; have := x.m.lr; omega
  exact ⟨x.m.set a b, blk_set_ne (blk_set_ne x.k9 e9) e9, by rw [cell_set_ne eg, cell_set_ne eg]; exact x.c, x.n9, x.lg⟩
theorem TSt.cells {w W : World} {gr xl xh rl rh g9 m1 m2 g o q : Nat} (x : TSt w W gr xl xh rl rh g9 m1 m2 g o q) : W.cell? ⟨g9, 0, none⟩ = some (.float .f64 m1) ∧ W.cell? ⟨g9, 1, none⟩ = some (.float .f64 m2) ∧ W.cell? ⟨g, o, none⟩ = some (.float .f64 q) := by
  obtain ⟨a, b, -, -⟩ := blk2 x.k9
  exact ⟨a, b, x.c⟩

theorem ErrIs.alloc' {A : Nat → Addr} {w : World} {v : Value} {k : Nat} {s : ByteArray} (h : ErrIs A w v k s) (o : Obj) : ErrIs A (w.alloc o) v k s := h.below ((Below.refl _ _).alloc (Nat.le_refl _) o)
theorem ErrIs.set3 {A : Nat → Addr} {w : World} {v : Value} {k : Nat} {s : ByteArray} {g : Nat} {a b u u' : Value} (h : ErrIs A w v k s) (z : w.heap[g]? = some (.cells #[a, b] 67 (0, 0))) : ErrIs A ((w.setCell ⟨g, 0, none⟩ u).setCell ⟨g, 1, none⟩ u') v k s :=
  (h.set (BoxT.of z) (by decide)).set (BoxT.of z).set (by decide)

/-- What is known of Horner's steps, counted by how many numbers are left. -/
structure HornK (ps : Nat → Nat) (m : Nat) (xl xh : Nat) (H : Nat → Nat × Nat × Nat × ByteArray) : Prop where
  step : ∀ t, t < m → H t = hstep (plT xl) (plT xh) (posW (ps t)) (H (t + 1))
  first : H m = (posW (ps m), posW (ps m), 0, ⟨#[]⟩)
  iv : ∀ t, t ≤ m → (H t).2.2.1 = 0 → Iv (H t).1 (H t).2.1
  zero : ∀ t, t ≤ m → (H t).2.2.1 ≠ 0 → (H t).1 = 0 ∧ (H t).2.1 = 0
  stick : ∀ t, t ≤ m → (H t).2.2.1 ≠ 0 → H 0 = H t
  name : ∀ t, (H t).2.2.1 = 0 → (H t).2.2.2 = ⟨#[]⟩

theorem hornK {ps : Nat → Nat} {m xl xh : Nat} (hr : rightN ps (m + 1) = 0) (hp : ∀ i, i < m + 1 → ps i < 18446744073709551616) : HornK ps m xl xh (fun t => hornN ps (m + 1) (plT xl) (plT xh) (m - t)) := by
  refine ⟨fun t ht => ?_, ?_, fun t ht => (horn_iv hr hp (m - t) (by omega)).1, fun t ht => (horn_iv hr hp (m - t) (by omega)).2, fun t ht h => ?_, fun t => horn_name (m - t)⟩
  · show hornN ps (m + 1) (plT xl) (plT xh) (m - t) = hstep (plT xl) (plT xh) (posW (ps t)) (hornN ps (m + 1) (plT xl) (plT xh) (m - (t + 1)))
    have e : m - t = (m - (t + 1)) + 1 := by omega
    rw [e]
    show hstep (plT xl) (plT xh) (posW (ps (m + 1 - 2 - (m - (t + 1))))) _ = _
    rw [show m + 1 - 2 - (m - (t + 1)) = t by omega]
  · show hornN ps (m + 1) (plT xl) (plT xh) (m - m) = _
    rw [Nat.sub_self]
    rfl
  · show hornN ps (m + 1) (plT xl) (plT xh) (m - 0) = hornN ps (m + 1) (plT xl) (plT xh) (m - t)
    rw [show m - 0 = (m - t) + t by omega]
    exact horn_stick h t

theorem hstep_bad {x1 x2 : Bool × Nat × Int} {q : Nat} {r : Nat × Nat × Nat × ByteArray} (h0 : r.2.2.1 = 0) (h : (refOpN 5 (plT r.1) (plT r.2.1) x1 x2).2.2.1 ≠ 0) : hstep x1 x2 q r = refOpN 5 (plT r.1) (plT r.2.1) x1 x2 := by
  unfold hstep; rw [if_neg (by omega), if_pos h]
theorem hstep_good {x1 x2 : Bool × Nat × Int} {q : Nat} {r : Nat × Nat × Nat × ByteArray} (h0 : r.2.2.1 = 0) (h : (refOpN 5 (plT r.1) (plT r.2.1) x1 x2).2.2.1 = 0) : hstep x1 x2 q r = refOpN 3 (plT (refOpN 5 (plT r.1) (plT r.2.1) x1 x2).1) (plT (refOpN 5 (plT r.1) (plT r.2.1) x1 x2).2.1) (plT q) (plT q) := by
  unfold hstep; rw [if_neg (by omega), if_neg (by omega)]

set_option maxHeartbeats 4000000 in
set_option maxRecDepth 100000 in
theorem horner_any (A : Nat → Addr) (g off m c : Nat) (ps : Nat → Nat) (xl xh : Nat) (w : World) (hS : Sents A w) (hg : g < w.heap.size) (hc : ∀ i, i < m + 1 → w.cell? ⟨g, off + i, none⟩ = some (.float .f64 (ps i))) (hm9 : m < 9)
    (hP : ∀ i, i < m + 1 → ∀ W : World, Calls Tryz.prog 167 #[.float .f64 (ps i)] W fun e w' => e = .returned (.agg #[.float .f64 (posW (ps i)), .float .f64 (posW (ps i))]) ∧ Below W.heap.size W w')
    (hIP : ∀ i, i < m + 1 → Iv (posW (ps i)) (posW (ps i))) (ix : Iv xl xh) (H : Nat → Nat × Nat × Nat × ByteArray) (hH : HornK ps m xl xh H) :
    Calls Tryz.prog 134 #[.slice (some ⟨g, off, none⟩) (m + 1) c, .agg #[.float .f64 xl, .float .f64 xh]] w fun ev w' => OpR A w (H 0).1 (H 0).2.1 (H 0).2.2.1 (H 0).2.2.2 ev w' := by
  have HC : Hid (∀ i, i < m + 1 → w.cell? ⟨g, off + i, none⟩ = some (.float .f64 (ps i))) := hc
  have HG : Hid (g < w.heap.size) := hg
  have HS : Hid (Sents A w) := hS
  have HP : Hid (∀ i, i < m + 1 → ∀ W : World, Calls Tryz.prog 167 #[.float .f64 (ps i)] W fun e w' => e = .returned (.agg #[.float .f64 (posW (ps i)), .float .f64 (posW (ps i))]) ∧ Below W.heap.size W w') := hP
  have HIP : Hid (∀ i, i < m + 1 → Iv (posW (ps i)) (posW (ps i))) := hIP
  have HIX : Hid (Iv xl xh) := ix
  have HK : Hid (HornK ps m xl xh H) := hH
  have h0 : w.cell? ⟨g, off + m, none⟩ = some (.float .f64 (ps m)) := hc m (by omega)
  clear hS hP hIP ix hH hc
  go_enter Tryz.func134, Tryz.ntmps134
  go_wp2_with fail
  have B3 := blk_old (blk_new w (Obj.cells #[.float .f64 xl, .float .f64 xh] 67)) (Obj.cells #[.float .f64 0, .float .f64 0] 67)
  have B4 := blk_new (w.alloc (Obj.cells #[.float .f64 xl, .float .f64 xh] 67)) (Obj.cells #[.float .f64 0, .float .f64 0] 67)
  have hW : Below w.heap.size w ((w.alloc (Obj.cells #[.float .f64 xl, .float .f64 xh] 67)).alloc (Obj.cells #[.float .f64 0, .float .f64 0] 67)) := ((Below.refl _ _).alloc (Nat.le_refl _) _).alloc (by simp) _
  have hsz : w.heap.size + 1 < ((w.alloc (Obj.cells #[.float .f64 xl, .float .f64 xh] 67)).alloc (Obj.cells #[.float .f64 0, .float .f64 0] 67)).heap.size := by simp
  simp only [World.size_alloc] at B4
  generalize ((w.alloc (Obj.cells #[.float .f64 xl, .float .f64 xh] 67)).alloc (Obj.cells #[.float .f64 0, .float .f64 0] 67)) = W1 at *
  refine Calls.mono (HP.out m (by omega) _) ?_
  rintro e w1 ⟨rfl, hb1⟩
  have M1 : Hid (HSt w (w1.alloc (Obj.cells #[.float .f64 (posW (ps m)), .float .f64 (posW (ps m))] 67)) w1.heap.size xl xh (posW (ps m)) (posW (ps m))) := ⟨blk_old (blk_below B3 hb1) _, blk_old (blk_below B4 hb1) _, blk_new w1 _, (hW.trans (hb1.mono hW.size)).alloc (Nat.le_trans hW.size hb1.size) _, Nat.lt_of_lt_of_le hsz hb1.size⟩
  clear B3 B4 hW hsz hb1 h0
  go_wp2_with fail
  generalize hgr : w1.heap.size = gr at *
  generalize (w1.alloc (Obj.cells #[.float .f64 (posW (ps m)), .float .f64 (posW (ps m))] 67)) = W2 at *
  clear hgr
  go_loopw [8, 9, 10] (fun x _ _ wr => ∃ t : Nat, t ≤ m ∧ x = .int .i64 ((t : Int) - 1) ∧ (H t).2.2.1 = 0 ∧ HSt w wr gr xl xh (H t).1 (H t).2.1) (fun x _ _ _ => (intOf x + 1).toNat)
  case atStart =>
    refine ⟨m, Nat.le_refl _, by first | rfl | go_num, ?_, ?_⟩
    · rw [HK.out.first]
    · rw [HK.out.first]; exact M1.out
  case round =>
    obtain ⟨t, ht, rfl, hcode, hm⟩ := hrel
    clear M1
    cases t with
    | zero =>
      have HM : Hid (HSt w wr gr xl xh (H 0).1 (H 0).2.1) := hm
      have HCD : Hid ((H 0).2.2.1 = 0) := hcode
      obtain ⟨x0, x1, -, -⟩ := blk2 hm.kr
      obtain ⟨z0, z1, z2, z3⟩ := blk2 hm.k4
      clear hm hcode
      go_wp2_with fail
      obtain ⟨p0, p1, -, -⟩ := blk2 (blk_store2 (a := .float .f64 (H 0).1) (b := .float .f64 (H 0).2.1) HM.out.k4)
      refine bodyPost_ret (v := .tuple #[.agg #[.float .f64 (H 0).1, .float .f64 (H 0).2.1], .nilIface]) (by simp [results, Tryz.results134, go_sem, p0, p1]) rfl ?_
      refine ⟨_, rfl, ?_, (HM.out.hb.setCell (by simp) _).setCell (by simp) _⟩
      rw [HCD.out, HK.out.name 0 HCD.out]
      exact .nil
    | succ t =>
      have hct : wr.cell? ⟨g, off + t, none⟩ = some (.float .f64 (ps t)) := by rw [hm.hb.cell (by exact HG.out)]; exact HC.out t (by omega)
      have iv := HK.out.iv (t + 1) ht hcode
      have HB : Hid ((refOpN 5 (plT (H (t + 1)).1) (plT (H (t + 1)).2.1) (plT xl) (plT xh)).2.2.1 ≠ 0 → H t = refOpN 5 (plT (H (t + 1)).1) (plT (H (t + 1)).2.1) (plT xl) (plT xh)) := fun h => (HK.out.step t (by omega)).trans (hstep_bad hcode h)
      have HGD : Hid ((refOpN 5 (plT (H (t + 1)).1) (plT (H (t + 1)).2.1) (plT xl) (plT xh)).2.2.1 = 0 → H t = refOpN 3 (plT (refOpN 5 (plT (H (t + 1)).1) (plT (H (t + 1)).2.1) (plT xl) (plT xh)).1) (plT (refOpN 5 (plT (H (t + 1)).1) (plT (H (t + 1)).2.1) (plT xl) (plT xh)).2.1) (plT (posW (ps t))) (plT (posW (ps t)))) := fun h => (HK.out.step t (by omega)).trans (hstep_good hcode h)
      have HMUL : Hid (∀ W, Below w.heap.size w W → Calls Tryz.prog 46 #[.agg #[.float .f64 (H (t + 1)).1, .float .f64 (H (t + 1)).2.1], .agg #[.float .f64 xl, .float .f64 xh]] W fun ev w' => OpR A W (refOpN 5 (plT (H (t + 1)).1) (plT (H (t + 1)).2.1) (plT xl) (plT xh)).1 (refOpN 5 (plT (H (t + 1)).1) (plT (H (t + 1)).2.1) (plT xl) (plT xh)).2.1 (refOpN 5 (plT (H (t + 1)).1) (plT (H (t + 1)).2.1) (plT xl) (plT xh)).2.2.1 (refOpN 5 (plT (H (t + 1)).1) (plT (H (t + 1)).2.1) (plT xl) (plT xh)).2.2.2 ev w') := fun W hb => m_mul A iv HIX.out _ rfl W (HS.out.below hb (Nat.le_refl _))
      have HIM : Hid ((refOpN 5 (plT (H (t + 1)).1) (plT (H (t + 1)).2.1) (plT xl) (plT xh)).2.2.1 = 0 → Iv (refOpN 5 (plT (H (t + 1)).1) (plT (H (t + 1)).2.1) (plT xl) (plT xh)).1 (refOpN 5 (plT (H (t + 1)).1) (plT (H (t + 1)).2.1) (plT xl) (plT xh)).2.1) := iv_mul
      have HM : Hid (HSt w wr gr xl xh (H (t + 1)).1 (H (t + 1)).2.1) := hm
      have HPT : Hid (∀ W : World, Calls Tryz.prog 167 #[.float .f64 (ps t)] W fun e w' => e = .returned (.agg #[.float .f64 (posW (ps t)), .float .f64 (posW (ps t))]) ∧ Below W.heap.size W w') := HP.out t (by omega)
      have HIT : Hid (Iv (posW (ps t)) (posW (ps t))) := HIP.out t (by omega)
      obtain ⟨x0, x1, -, -⟩ := blk2 hm.kr
      obtain ⟨y0, y1, -, -⟩ := blk2 hm.k3
      clear hm hcode iv HP HIP HC
      generalize refOpN 5 (plT (H (t + 1)).1) (plT (H (t + 1)).2.1) (plT xl) (plT xh) = rm at *
      generalize (H (t + 1)).1 = rl at *
      generalize (H (t + 1)).2.1 = rh at *
      obtain ⟨m1, m2, m3, ms⟩ := rm
      simp only at HB HGD HMUL HIM
      go_wp2_with fail
      refine Calls.mono (HMUL.out _ HM.out.hb) ?_
      intro e w3 hR
      unfold OpR at hR
      obtain ⟨v, rfl, hE, hb3⟩ := hR
      have M3 : Hid (HSt w w3 gr xl xh rl rh) := HM.out.below hb3
      have HE : Hid (ErrIs A w3 v m3 ms) := hE
      have hct3 : w3.cell? ⟨g, off + t, none⟩ = some (.float .f64 (ps t)) := by rw [hb3.cell (by have := HM.out.hb.size; have := HG.out; simp; omega)]; exact hct
      clear hE hb3 hct x0 x1 y0 y1 HM HMUL
      have HF : Hid (m3 ≠ 0 → (H 0).1 = 0 ∧ (H 0).2.1 = 0 ∧ (H 0).2.2.1 = m3 ∧ (H 0).2.2.2 = ms) := fun h => by
        have e := HB.out h
        have hc : (H t).2.2.1 ≠ 0 := by rw [e]; exact h
        obtain ⟨z1, z2⟩ := HK.out.zero t (by omega) hc
        rw [HK.out.stick t (by omega) hc]
        exact ⟨z1, z2, by rw [e], by rw [e]⟩
      by_cases hz : m3 = 0
      · subst hz
        obtain rfl := HE.out.zero
        have HGE := HGD.out rfl
        have hfin : (H t).2.2.1 ≠ 0 → (H 0).1 = 0 ∧ (H 0).2.1 = 0 ∧ (H 0).2.2.1 = (H t).2.2.1 ∧ (H 0).2.2.2 = (H t).2.2.2 := fun h => by
          obtain ⟨z1, z2⟩ := HK.out.zero t (by omega) h
          rw [HK.out.stick t (by omega) h]
          exact ⟨z1, z2, rfl, rfl⟩
        have HADD : Hid (∀ W, Below w.heap.size w W → Calls Tryz.prog 44 #[.agg #[.float .f64 m1, .float .f64 m2], .agg #[.float .f64 (posW (ps t)), .float .f64 (posW (ps t))]] W fun ev w' => OpR A W (H t).1 (H t).2.1 (H t).2.2.1 (H t).2.2.2 ev w') := fun W hb => m_add A (HIM.out rfl) HIT.out _ HGE W (HS.out.below hb (Nat.le_refl _))
        have HFN : Hid ((H t).2.2.1 ≠ 0 → (H 0).1 = 0 ∧ (H 0).2.1 = 0 ∧ (H 0).2.2.1 = (H t).2.2.1 ∧ (H 0).2.2.2 = (H t).2.2.2) := hfin
        have T3 : Hid (TSt w (w3.alloc (Obj.cells #[.float .f64 m1, .float .f64 m2] 67)) gr xl xh rl rh w3.heap.size m1 m2 g (off + t) (ps t)) := ⟨M3.out.alloc _, blk_new w3 _, by rw [World.cell?_of_block (Below.heap_alloc _ _ _ (by have := M3.out.hb.size; have := HG.out; simp; omega))]; exact hct3, lt_of_row M3.out.kr, HG.out⟩
        clear HGE hfin hct3 HF HB HGD HIM HIT M3 HE
        generalize posW (ps t) = q at *
        generalize hHt : H t = ra at *
        obtain ⟨a1, a2, a3, as_⟩ := ra
        simp only at HADD HFN
        have ti1 : (t : Int) < (m : Int) + 1 := by omega
        have ti2 : t < m + 1 := by omega
        have ti3 : (0 : Int) ≤ (t : Int) := by omega
        go_wp2_with fail
        generalize w3.heap.size = g9 at *
        generalize (w3.alloc (Obj.cells #[.float .f64 m1, .float .f64 m2] 67)) = W4 at *
        have iN : Hid (TSt w W4.drew gr xl xh rl rh g9 m1 m2 g (off + t) (ps t)) := T3.out.drew
        clear T3
        go_region_held3 (fun W => W.cell? ⟨g9, 0, none⟩ = some (.float .f64 m1) ∧ W.cell? ⟨g9, 1, none⟩ = some (.float .f64 m2) ∧ W.cell? ⟨g, off + t, none⟩ = some (.float .f64 (ps t))) (first | with_reducible exact iN.out.cells | with_reducible exact (iN.out.set _ _).cells)
          (first
            | (go_at_call 167; with_reducible (refine Calls.mono (HPT.out _) ?_); rintro e v4 ⟨rfl, hbk⟩
               have iN : Hid (TSt w v4 gr xl xh rl rh g9 m1 m2 g (off + t) (ps t)) := iN.out.below hbk
               clear hbk)
            | (go_at_call 44; with_reducible (refine Calls.mono (HADD.out _ ?_) ?_); (with_reducible exact iN.out.m.hb); (intro e v5 hR); (unfold OpR at hR); (obtain ⟨v, rfl, hE, hbk⟩ := hR)
               have HE : Hid (ErrIs A v5 v a3 as_) := hE
               have iN : Hid (TSt w v5 gr xl xh rl rh g9 m1 m2 g (off + t) (ps t)) := iN.out.below hbk
               obtain ⟨zc0, zc1, zc2, zc3⟩ := blk2 iN.out.m.kr
               clear hbk hE))
        have T5 : Hid (TSt w ((v5.setCell ⟨gr, 0, none⟩ (.float .f64 a1)).setCell ⟨gr, 1, none⟩ (.float .f64 a2)) gr xl xh a1 a2 g9 m1 m2 g (off + t) (ps t)) := iN.out.set _ _
        have HE5 : Hid (ErrIs A ((v5.setCell ⟨gr, 0, none⟩ (.float .f64 a1)).setCell ⟨gr, 1, none⟩ (.float .f64 a2)) v a3 as_) := HE.out.set3 iN.out.m.kr
        clear iN HE
        generalize ((v5.setCell ⟨gr, 0, none⟩ (.float .f64 a1)).setCell ⟨gr, 1, none⟩ (.float .f64 a2)) = W6 at *
        by_cases hz : a3 = 0
        · subst hz
          obtain rfl := HE5.out.zero
          clear HADD
          go_wp2_with fail
          go_roundw
          case rel => exact ⟨t, by omega, by go_num, by rw [hHt], by rw [hHt]; exact T5.out.m⟩
          case measure => first | (simp [intOf]; done) | (simp [intOf]; omega)
        · obtain ⟨f1, f2, f3, f4⟩ := HFN.out hz
          have hE := HE5.out
          have HE6 : Hid (ErrIs A ((W6.setCell ⟨w.heap.size + 1, 0, none⟩ (.float .f64 0)).setCell ⟨w.heap.size + 1, 1, none⟩ (.float .f64 0)) v a3 as_) := HE5.out.set3 T5.out.m.k4
          obtain ⟨z0, z1, z2, z3⟩ := blk2 T5.out.m.k4
          have HFF : Hid ((H 0).1 = 0 ∧ (H 0).2.1 = 0 ∧ (H 0).2.2.1 = a3 ∧ (H 0).2.2.2 = as_) := ⟨f1, f2, f3, f4⟩
          clear HFN HE5 HADD f1 f2 f3 f4
          rcases hE with ⟨rfl, rfl, rfl⟩ | ⟨k, hk, rfl, rfl, rfl⟩ | ⟨k, hk, b, hr, rfl, rfl⟩
          · exact absurd rfl hz
          ·
            go_wp2_with fail
            obtain ⟨p0, p1, -, -⟩ := blk2 (blk_store2 (a := .float .f64 0) (b := .float .f64 0) T5.out.m.k4)
            refine bodyPost_ret (v := .tuple #[.agg #[.float .f64 0, .float .f64 0], .iface 229 (.pointer (some (A k)))]) (by simp [results, Tryz.results134, go_sem, p0, p1]) rfl ?_
            obtain ⟨f1, f2, f3, f4⟩ := HFF.out
            rw [f1, f2, f3, f4]
            exact ⟨_, rfl, HE6.out, (T5.out.m.hb.setCell (by simp) _).setCell (by simp) _⟩
          ·
            go_wp2_with fail
            obtain ⟨p0, p1, -, -⟩ := blk2 (blk_store2 (a := .float .f64 0) (b := .float .f64 0) T5.out.m.k4)
            refine bodyPost_ret (v := .tuple #[.agg #[.float .f64 0, .float .f64 0], .iface 136 (.pointer (some ⟨b, 0, none⟩))]) (by simp [results, Tryz.results134, go_sem, p0, p1]) rfl ?_
            obtain ⟨f1, f2, f3, f4⟩ := HFF.out
            rw [f1, f2, f3, f4]
            exact ⟨_, rfl, HE6.out, (T5.out.m.hb.setCell (by simp) _).setCell (by simp) _⟩
      · have hFF := HF.out hz
        have HFF : Hid ((H 0).1 = 0 ∧ (H 0).2.1 = 0 ∧ (H 0).2.2.1 = m3 ∧ (H 0).2.2.2 = ms) := hFF
        have hE := HE.out
        have HE6 : Hid (ErrIs A (((w3.setCell ⟨w.heap.size + 1, 0, none⟩ (.float .f64 0)).setCell ⟨w.heap.size + 1, 1, none⟩ (.float .f64 0)).alloc (Obj.cells #[.float .f64 m1, .float .f64 m2] 67)) v m3 ms) := (HE.out.set3 M3.out.k4).alloc' _
        obtain ⟨z0, z1, z2, z3⟩ := blk2 M3.out.k4
        have lz := lt_of_row M3.out.k4
        clear HF HB HGD HIM HIT HPT HE hct3 hFF
        rcases hE with ⟨rfl, rfl, rfl⟩ | ⟨k, hk, rfl, rfl, rfl⟩ | ⟨k, hk, b, hr, rfl, rfl⟩
        · exact absurd rfl hz
        ·
          go_wp2_with fail
          obtain ⟨p0, p1, -, -⟩ := blk2 (blk_old (blk_store2 (a := .float .f64 0) (b := .float .f64 0) M3.out.k4) (Obj.cells #[.float .f64 m1, .float .f64 m2] 67))
          refine bodyPost_ret (v := .tuple #[.agg #[.float .f64 0, .float .f64 0], .iface 229 (.pointer (some (A k)))]) (by simp [results, Tryz.results134, go_sem, p0, p1]) rfl ?_
          obtain ⟨f1, f2, f3, f4⟩ := HFF.out
          rw [f1, f2, f3, f4]
          exact ⟨_, rfl, HE6.out, ((M3.out.hb.setCell (by simp) _).setCell (by simp) _).alloc (by have := M3.out.hb.size; simp; omega) _⟩
        ·
          go_wp2_with fail
          obtain ⟨p0, p1, -, -⟩ := blk2 (blk_old (blk_store2 (a := .float .f64 0) (b := .float .f64 0) M3.out.k4) (Obj.cells #[.float .f64 m1, .float .f64 m2] 67))
          refine bodyPost_ret (v := .tuple #[.agg #[.float .f64 0, .float .f64 0], .iface 136 (.pointer (some ⟨b, 0, none⟩))]) (by simp [results, Tryz.results134, go_sem, p0, p1]) rfl ?_
          obtain ⟨f1, f2, f3, f4⟩ := HFF.out
          rw [f1, f2, f3, f4]
          exact ⟨_, rfl, HE6.out, ((M3.out.hb.setCell (by simp) _).setCell (by simp) _).alloc (by have := M3.out.hb.size; simp; omega) _⟩
end Go.Proofs.YtonhpkigoplmaaaGreatDoor
namespace Go.Proofs.YtonhpkigoplmaaaGreatDoor
open Go.RowKit

theorem hid {p : Prop} (h : p) : Hid p := h

/-- The boxes of encloseref.Eval. -/
structure RSt (w W : World) (gr xl xh rl rh : Nat) : Prop where
  k3 : W.heap[w.heap.size]? = some (.cells #[.int .u64 (xl : Int), .int .u64 (xh : Int)] 28 (0, 0))
  k4 : W.heap[w.heap.size + 1]? = some (.cells #[.int .u64 0, .int .u64 0] 28 (0, 0))
  kr : W.heap[gr]? = some (.cells #[.int .u64 (rl : Int), .int .u64 (rh : Int)] 28 (0, 0))
  hb : Below w.heap.size w W
  lr : w.heap.size + 1 < gr
theorem RSt.below {w W W' : World} {gr xl xh rl rh : Nat} (m : RSt w W gr xl xh rl rh) (hb : Below W.heap.size W W') : RSt w W' gr xl xh rl rh := ⟨blk_below m.k3 hb, blk_below m.k4 hb, blk_below m.kr hb, m.hb.trans (hb.mono m.hb.size), m.lr⟩
theorem RSt.alloc {w W : World} {gr xl xh rl rh : Nat} (m : RSt w W gr xl xh rl rh) (o : Obj) : RSt w (W.alloc o) gr xl xh rl rh := m.below ((Below.refl _ _).alloc (Nat.le_refl _) o)
theorem RSt.set {w W : World} {gr xl xh rl rh : Nat} (m : RSt w W gr xl xh rl rh) (x y : Nat) : RSt w ((W.setCell ⟨gr, 0, none⟩ (.int .u64 (x : Int))).setCell ⟨gr, 1, none⟩ (.int .u64 (y : Int))) gr xl xh x y := by
  have e := m.lr
  have e3 : w.heap.size ≠ gr := by omega
  have e4 : w.heap.size + 1 ≠ gr := by omega
  have e5 : w.heap.size ≤ gr := by omega
  exact ⟨blk_set_ne (blk_set_ne m.k3 e3) e3, blk_set_ne (blk_set_ne m.k4 e4) e4, blk_store2 m.kr, (m.hb.setCell (by exact e5) _).setCell (by exact e5) _, m.lr⟩

set_option maxHeartbeats 4000000 in
set_option maxRecDepth 100000 in
theorem refEval_good (g off m c : Nat) (ps : Nat → Nat) (xl xh al ah : Nat) (w : World) (hg : g < w.heap.size) (hc : ∀ i, i < m + 1 → w.cell? ⟨g, off + i, none⟩ = some (.int .u64 (ps i : Int))) (hm9 : m < 9)
    (hR : ∀ W, Below w.heap.size w W → Calls Tryz.prog 80 #[.slice (some ⟨g, off, none⟩) (m + 1) c] W fun e w' => e = .returned (.int .i64 0) ∧ Below W.heap.size W w')
    (hP : ∀ i, i < m + 1 → ∀ W : World, Calls Tryz.prog 81 #[.int .u64 (ps i : Int)] W fun e w' => e = .returned (.agg #[.int .u64 (posW (ps i) : Int), .int .u64 (posW (ps i) : Int)]) ∧ Below W.heap.size W w')
    (hO5 : ∀ l h, Iv l h → ∀ W : World, Calls Tryz.prog 29 #[.int .i64 5, .agg #[.int .u64 (l : Int), .int .u64 (h : Int)], .agg #[.int .u64 (xl : Int), .int .u64 (xh : Int)]] W fun e w' => e = .returned (.tuple #[.agg #[.int .u64 ((refOpN 5 (plT l) (plT h) (plT al) (plT ah)).1 : Int), .int .u64 ((refOpN 5 (plT l) (plT h) (plT al) (plT ah)).2.1 : Int)], .int .i64 ((refOpN 5 (plT l) (plT h) (plT al) (plT ah)).2.2.1 : Int), .string (refOpN 5 (plT l) (plT h) (plT al) (plT ah)).2.2.2]) ∧ Below W.heap.size W w')
    (hO3 : ∀ l h, Iv l h → ∀ i, i < m + 1 → ∀ W : World, Calls Tryz.prog 29 #[.int .i64 3, .agg #[.int .u64 (l : Int), .int .u64 (h : Int)], .agg #[.int .u64 (posW (ps i) : Int), .int .u64 (posW (ps i) : Int)]] W fun e w' => e = .returned (.tuple #[.agg #[.int .u64 ((refOpN 3 (plT l) (plT h) (plT (posW (ps i))) (plT (posW (ps i)))).1 : Int), .int .u64 ((refOpN 3 (plT l) (plT h) (plT (posW (ps i))) (plT (posW (ps i)))).2.1 : Int)], .int .i64 ((refOpN 3 (plT l) (plT h) (plT (posW (ps i))) (plT (posW (ps i)))).2.2.1 : Int), .string (refOpN 3 (plT l) (plT h) (plT (posW (ps i))) (plT (posW (ps i)))).2.2.2]) ∧ Below W.heap.size W w')
    (H : Nat → Nat × Nat × Nat × ByteArray) (hH : HornK ps m al ah H) :
    Calls Tryz.prog 36 #[.slice (some ⟨g, off, none⟩) (m + 1) c, .agg #[.int .u64 (xl : Int), .int .u64 (xh : Int)]] w fun e w' => e = .returned (.tuple #[.agg #[.int .u64 ((H 0).1 : Int), .int .u64 ((H 0).2.1 : Int)], .int .i64 ((H 0).2.2.1 : Int), .string (H 0).2.2.2]) ∧ Below w.heap.size w w' := by
  have HC : Hid (∀ i, i < m + 1 → w.cell? ⟨g, off + i, none⟩ = some (.int .u64 (ps i : Int))) := hc
  have HG : Hid (g < w.heap.size) := hg
  have HR := hid hR
  have HP := hid hP
  have HO5 := hid hO5
  have HO3 := hid hO3
  have HK : Hid (HornK ps m al ah H) := hH
  clear hR hP hO5 hO3 hH
  go_enter Tryz.func36, Tryz.ntmps36
  go_wp2_with fail
  have B3 := blk_old (blk_new w (Obj.cells #[.int .u64 (xl : Int), .int .u64 (xh : Int)] 28)) (Obj.cells #[.int .u64 0, .int .u64 0] 28)
  have B4 := blk_new (w.alloc (Obj.cells #[.int .u64 (xl : Int), .int .u64 (xh : Int)] 28)) (Obj.cells #[.int .u64 0, .int .u64 0] 28)
  have hW : Below w.heap.size w ((w.alloc (Obj.cells #[.int .u64 (xl : Int), .int .u64 (xh : Int)] 28)).alloc (Obj.cells #[.int .u64 0, .int .u64 0] 28)) := ((Below.refl _ _).alloc (Nat.le_refl _) _).alloc (by simp) _
  have hsz : w.heap.size + 1 < ((w.alloc (Obj.cells #[.int .u64 (xl : Int), .int .u64 (xh : Int)] 28)).alloc (Obj.cells #[.int .u64 0, .int .u64 0] 28)).heap.size := by simp
  simp only [World.size_alloc] at B4
  generalize ((w.alloc (Obj.cells #[.int .u64 (xl : Int), .int .u64 (xh : Int)] 28)).alloc (Obj.cells #[.int .u64 0, .int .u64 0] 28)) = W1 at *
  refine Calls.mono (HR.out _ hW) ?_
  rintro e w0 ⟨rfl, hb0⟩
  have hW0 : Below w.heap.size w w0 := hW.trans (hb0.mono hW.size)
  have B30 := blk_below B3 hb0
  have B40 := blk_below B4 hb0
  have hsz0 := Nat.lt_of_lt_of_le hsz hb0.size
  have h0 : w0.cell? ⟨g, off + m, none⟩ = some (.int .u64 (ps m : Int)) := by rw [hW0.cell (by exact hg)]; exact hc m (by omega)
  clear hW B3 B4 hsz hb0 hc HR
  go_wp2_with fail
  refine Calls.mono (HP.out m (by omega) _) ?_
  rintro e w1 ⟨rfl, hb1⟩
  have M1 : Hid (RSt w (w1.alloc (Obj.cells #[.int .u64 (posW (ps m) : Int), .int .u64 (posW (ps m) : Int)] 28)) w1.heap.size xl xh (posW (ps m)) (posW (ps m))) := ⟨blk_old (blk_below B30 hb1) _, blk_old (blk_below B40 hb1) _, blk_new w1 _, (hW0.trans (hb1.mono hW0.size)).alloc (Nat.le_trans hW0.size hb1.size) _, Nat.lt_of_lt_of_le hsz0 hb1.size⟩
  clear B30 B40 hW0 hsz0 hb1 h0
  go_wp2_with fail
  generalize hgr : w1.heap.size = gr at *
  generalize (w1.alloc (Obj.cells #[.int .u64 (posW (ps m) : Int), .int .u64 (posW (ps m) : Int)] 28)) = W2 at *
  clear hgr
  go_loopw [9, 10, 11, 12, 13, 14] (fun x _ _ _ _ _ wr => ∃ t : Nat, t ≤ m ∧ x = .int .i64 ((t : Int) - 1) ∧ (H t).2.2.1 = 0 ∧ RSt w wr gr xl xh (H t).1 (H t).2.1) (fun x _ _ _ _ _ _ => (intOf x + 1).toNat)
  case atStart =>
    refine ⟨m, Nat.le_refl _, by first | rfl | go_num, ?_, ?_⟩
    · rw [HK.out.first]
    · rw [HK.out.first]; exact M1.out
  case round =>
    obtain ⟨t, ht, rfl, hcode, hm⟩ := hrel
    clear M1
    cases t with
    | zero =>
      have HM : Hid (RSt w wr gr xl xh (H 0).1 (H 0).2.1) := hm
      have HCD : Hid ((H 0).2.2.1 = 0) := hcode
      obtain ⟨x0, x1, -, -⟩ := blk2 hm.kr
      obtain ⟨z0, z1, z2, z3⟩ := blk2 hm.k4
      clear hm hcode
      go_wp2_with fail
      obtain ⟨p0, p1, -, -⟩ := blk2 (blk_store2 (a := .int .u64 ((H 0).1 : Int)) (b := .int .u64 ((H 0).2.1 : Int)) HM.out.k4)
      refine bodyPost_ret (v := .tuple #[.agg #[.int .u64 ((H 0).1 : Int), .int .u64 ((H 0).2.1 : Int)], .int .i64 0, .string ⟨#[]⟩]) (by simp [results, Tryz.results36, go_sem, p0, p1]) rfl ?_
      rw [HCD.out, HK.out.name 0 HCD.out]
      exact ⟨rfl, (HM.out.hb.setCell (by simp) _).setCell (by simp) _⟩
    | succ t =>
      have hct : wr.cell? ⟨g, off + t, none⟩ = some (.int .u64 (ps t : Int)) := by rw [hm.hb.cell (by exact HG.out)]; exact HC.out t (by omega)
      have iv := HK.out.iv (t + 1) ht hcode
      have HB : Hid ((refOpN 5 (plT (H (t + 1)).1) (plT (H (t + 1)).2.1) (plT al) (plT ah)).2.2.1 ≠ 0 → H t = refOpN 5 (plT (H (t + 1)).1) (plT (H (t + 1)).2.1) (plT al) (plT ah)) := fun h => (HK.out.step t (by omega)).trans (hstep_bad hcode h)
      have HGD : Hid ((refOpN 5 (plT (H (t + 1)).1) (plT (H (t + 1)).2.1) (plT al) (plT ah)).2.2.1 = 0 → H t = refOpN 3 (plT (refOpN 5 (plT (H (t + 1)).1) (plT (H (t + 1)).2.1) (plT al) (plT ah)).1) (plT (refOpN 5 (plT (H (t + 1)).1) (plT (H (t + 1)).2.1) (plT al) (plT ah)).2.1) (plT (posW (ps t))) (plT (posW (ps t)))) := fun h => (HK.out.step t (by omega)).trans (hstep_good hcode h)
      have HMUL := hid (HO5.out _ _ iv)
      have HIM : Hid ((refOpN 5 (plT (H (t + 1)).1) (plT (H (t + 1)).2.1) (plT al) (plT ah)).2.2.1 = 0 → Iv (refOpN 5 (plT (H (t + 1)).1) (plT (H (t + 1)).2.1) (plT al) (plT ah)).1 (refOpN 5 (plT (H (t + 1)).1) (plT (H (t + 1)).2.1) (plT al) (plT ah)).2.1) := iv_mul
      have HADD0 := hid (fun h : (refOpN 5 (plT (H (t + 1)).1) (plT (H (t + 1)).2.1) (plT al) (plT ah)).2.2.1 = 0 => HO3.out _ _ (HIM.out h) t (by omega))
      have HM : Hid (RSt w wr gr xl xh (H (t + 1)).1 (H (t + 1)).2.1) := hm
      have HPT := hid (HP.out t (by omega))
      obtain ⟨x0, x1, -, -⟩ := blk2 hm.kr
      obtain ⟨y0, y1, -, -⟩ := blk2 hm.k3
      have lx := lt_of_row hm.kr
      have ly := lt_of_row hm.k3
      clear hm hcode iv HP HC HO5 HO3
      generalize refOpN 5 (plT (H (t + 1)).1) (plT (H (t + 1)).2.1) (plT al) (plT ah) = rm at *
      generalize (H (t + 1)).1 = rl at *
      generalize (H (t + 1)).2.1 = rh at *
      obtain ⟨m1, m2, m3, ms⟩ := rm
      simp only at HB HGD HMUL HIM HADD0
      go_wp2_with fail
      refine wp_loop_rounds 3 ?_
      rw [rounds_succ]
      go_wp2_with fail
      refine Calls.mono (HMUL.out _) ?_
      rintro e w3 ⟨rfl, hb3⟩
      have hbA : Below wr.heap.size wr w3 := ((Below.refl _ wr).alloc (Nat.le_refl _) (Obj.cells #[.int .u64 (xl : Int), .int .u64 (xh : Int)] 28)).trans (hb3.mono (by simp))
      have M3 : Hid (RSt w w3 gr xl xh rl rh) := HM.out.below hbA
      have hct3 : w3.cell? ⟨g, off + t, none⟩ = some (.int .u64 (ps t : Int)) := by rw [hbA.cell (by have := HM.out.hb.size; have := HG.out; simp; omega)]; exact hct
      have HF : Hid (m3 ≠ 0 → (H 0).1 = 0 ∧ (H 0).2.1 = 0 ∧ (H 0).2.2.1 = m3 ∧ (H 0).2.2.2 = ms) := fun h => by
        have e := HB.out h
        have hc : (H t).2.2.1 ≠ 0 := by rw [e]; exact h
        obtain ⟨z1, z2⟩ := HK.out.zero t (by omega) hc
        rw [HK.out.stick t (by omega) hc]
        exact ⟨z1, z2, by rw [e], by rw [e]⟩
      clear hb3 hbA hct x0 x1 y0 y1 lx ly HM HMUL
      by_cases hz : m3 = 0
      · subst hz
        have HGE := HGD.out rfl
        have HADD := hid (HADD0.out rfl)
        rw [← HGE] at HADD
        have HFN : Hid ((H t).2.2.1 ≠ 0 → (H 0).1 = 0 ∧ (H 0).2.1 = 0 ∧ (H 0).2.2.1 = (H t).2.2.1 ∧ (H 0).2.2.2 = (H t).2.2.2) := fun h => by
          obtain ⟨z1, z2⟩ := HK.out.zero t (by omega) h
          rw [HK.out.stick t (by omega) h]
          exact ⟨z1, z2, rfl, rfl⟩
        obtain ⟨x0, x1, x2, x3⟩ := blk2 M3.out.kr
        have lx := lt_of_row M3.out.kr
        clear HGE HF HB HGD HIM HADD0
        generalize posW (ps t) = q at *
        generalize hHt : H t = ra at *
        obtain ⟨a1, a2, a3, as_⟩ := ra
        simp only at HADD HFN
        have M4 : Hid (RSt w (((w3.setCell ⟨gr, 0, none⟩ (.int .u64 (m1 : Int))).setCell ⟨gr, 1, none⟩ (.int .u64 (m2 : Int))).alloc (Obj.cells #[.int .u64 (m1 : Int), .int .u64 (m2 : Int)] 28)) gr xl xh m1 m2) := (M3.out.set _ _).alloc _
        have hne : g ≠ gr := by have := M3.out.lr; have := HG.out; omega
        have hct4 : (((w3.setCell ⟨gr, 0, none⟩ (.int .u64 (m1 : Int))).setCell ⟨gr, 1, none⟩ (.int .u64 (m2 : Int))).alloc (Obj.cells #[.int .u64 (m1 : Int), .int .u64 (m2 : Int)] 28)).cell? ⟨g, off + t, none⟩ = some (.int .u64 (ps t : Int)) := by
          rw [World.cell?_of_block (Below.heap_alloc _ _ _ (by have := M3.out.hb.size; have := HG.out; simp; omega)), cell_set_ne hne, cell_set_ne hne]
          exact hct3
        go_wp2_with fail
        clear x0 x1 x2 x3 lx hne hct3 M3
        generalize (((w3.setCell ⟨gr, 0, none⟩ (.int .u64 (m1 : Int))).setCell ⟨gr, 1, none⟩ (.int .u64 (m2 : Int))).alloc (Obj.cells #[.int .u64 (m1 : Int), .int .u64 (m2 : Int)] 28)) = W5 at *
        obtain ⟨y0, y1, -, -⟩ := blk2 M4.out.k3
        have ti1 : (t : Int) < (m : Int) + 1 := by omega
        have ti2 : t < m + 1 := by omega
        have ti3 : (0 : Int) ≤ (t : Int) := by omega
        have lg : g < W5.heap.size := Nat.lt_of_lt_of_le HG.out M4.out.hb.size
        rw [rounds_succ]
        go_wp2_with fail
        refine Calls.mono (HPT.out _) ?_
        rintro e w6 ⟨rfl, hb6⟩
        have KY : Hid (w6.heap[W5.heap.size]? = _) := blk_below (blk_new W5 (Obj.cells #[.int .u64 (xl : Int), .int .u64 (xh : Int)] 28)) hb6
        have M6 : Hid (RSt w w6 gr xl xh m1 m2) := (M4.out.alloc _).below hb6
        have hne6 : gr ≠ W5.heap.size := Nat.ne_of_lt (lt_of_row M4.out.kr)
        have hne7 : w.heap.size ≤ W5.heap.size := M4.out.hb.size
        have n3 : w.heap.size ≠ W5.heap.size := by have := M4.out.lr; have := lt_of_row M4.out.kr; omega
        have n4 : w.heap.size + 1 ≠ W5.heap.size := by have := M4.out.lr; have := lt_of_row M4.out.kr; omega
        generalize W5.heap.size = gy at *
        obtain ⟨y0, y1, y2, y3⟩ := blk2 KY.out
        have ly := lt_of_row KY.out
        have M7 : Hid (RSt w ((w6.setCell ⟨gy, 0, none⟩ (.int .u64 (q : Int))).setCell ⟨gy, 1, none⟩ (.int .u64 (q : Int))) gr xl xh m1 m2) := ⟨blk_set_ne (blk_set_ne M6.out.k3 n3) n3, blk_set_ne (blk_set_ne M6.out.k4 n4) n4, blk_set_ne (blk_set_ne M6.out.kr hne6) hne6, (M6.out.hb.setCell (by exact hne7) _).setCell (by exact hne7) _, M6.out.lr⟩
        obtain ⟨r0, r1, -, -⟩ := blk2 M7.out.kr
        obtain ⟨s0, s1, -, -⟩ := blk2 (blk_store2 (a := .int .u64 (q : Int)) (b := .int .u64 (q : Int)) KY.out)
        clear hb6 M4 hct4 HPT ti1 ti2 ti3 lg M6 KY hne6 hne7 n3 n4
        go_wp2_with fail
        clear y0 y1 y2 y3 ly r0 r1 s0 s1
        generalize ((w6.setCell ⟨gy, 0, none⟩ (.int .u64 (q : Int))).setCell ⟨gy, 1, none⟩ (.int .u64 (q : Int))) = W7 at *
        refine Calls.mono (HADD.out _) ?_
        rintro e w8 ⟨rfl, hb8⟩
        have M8 : Hid (RSt w w8 gr xl xh m1 m2) := M7.out.below hb8
        clear hb8 M7 HADD
        by_cases hz : a3 = 0
        · subst hz
          have M9 : Hid (RSt w (((w8.setCell ⟨gr, 0, none⟩ (.int .u64 (a1 : Int))).setCell ⟨gr, 1, none⟩ (.int .u64 (a2 : Int))).alloc (Obj.cells #[.int .u64 (a1 : Int), .int .u64 (a2 : Int)] 28)) gr xl xh a1 a2) := (M8.out.set _ _).alloc _
          obtain ⟨x0, x1, x2, x3⟩ := blk2 M8.out.kr
          have lx := lt_of_row M8.out.kr
          clear HFN
          go_wp2_with fail
          rw [rounds_succ]
          go_wp2_with fail
          go_roundw
          case rel => exact ⟨t, by omega, by go_num, by rw [hHt], by rw [hHt]; exact M9.out⟩
          case measure => first | (simp [intOf]; done) | (simp [intOf]; omega)
        · have HFF : Hid ((H 0).1 = 0 ∧ (H 0).2.1 = 0 ∧ (H 0).2.2.1 = a3 ∧ (H 0).2.2.2 = as_) := HFN.out hz
          obtain ⟨z0, z1, z2, z3⟩ := blk2 M8.out.k4
          have lz := lt_of_row M8.out.k4
          have hz' : ¬ (a3 : Int) = 0 := by omega
          clear HFN
          go_wp2_with fail
          obtain ⟨p0, p1, -, -⟩ := blk2 (blk_old (blk_store2 (a := .int .u64 0) (b := .int .u64 0) M8.out.k4) (Obj.cells #[.int .u64 (a1 : Int), .int .u64 (a2 : Int)] 28))
          refine bodyPost_ret (v := .tuple #[.agg #[.int .u64 0, .int .u64 0], .int .i64 (a3 : Int), .string as_]) (by simp [results, Tryz.results36, go_sem, p0, p1]) rfl ?_
          obtain ⟨f1, f2, f3, f4⟩ := HFF.out
          rw [f1, f2, f3, f4]
          exact ⟨rfl, ((M8.out.hb.setCell (by simp) _).setCell (by simp) _).alloc (by have := M8.out.hb.size; simp; omega) _⟩
      · have hFF := HF.out hz
        have HFF : Hid ((H 0).1 = 0 ∧ (H 0).2.1 = 0 ∧ (H 0).2.2.1 = m3 ∧ (H 0).2.2.2 = ms) := hFF
        obtain ⟨z0, z1, z2, z3⟩ := blk2 M3.out.k4
        have lz := lt_of_row M3.out.k4
        have hz' : ¬ (m3 : Int) = 0 := by omega
        clear HF HB HGD HIM HPT HADD0 hct3 hFF
        go_wp2_with fail
        obtain ⟨p0, p1, -, -⟩ := blk2 (blk_old (blk_store2 (a := .int .u64 0) (b := .int .u64 0) M3.out.k4) (Obj.cells #[.int .u64 (m1 : Int), .int .u64 (m2 : Int)] 28))
        refine bodyPost_ret (v := .tuple #[.agg #[.int .u64 0, .int .u64 0], .int .i64 (m3 : Int), .string ms]) (by simp [results, Tryz.results36, go_sem, p0, p1]) rfl ?_
        obtain ⟨f1, f2, f3, f4⟩ := HFF.out
        rw [f1, f2, f3, f4]
        exact ⟨rfl, ((M3.out.hb.setCell (by simp) _).setCell (by simp) _).alloc (by have := M3.out.hb.size; simp; omega) _⟩

set_option maxRecDepth 100000 in
theorem refEval_bad (ao : Option Addr) (n c k : Nat) (xl xh : Nat) (w : World) (hk : k ≠ 0)
    (hR : ∀ W, Below w.heap.size w W → Calls Tryz.prog 80 #[.slice ao n c] W fun e w' => e = .returned (.int .i64 (k : Int)) ∧ Below W.heap.size W w') :
    Calls Tryz.prog 36 #[.slice ao n c, .agg #[.int .u64 (xl : Int), .int .u64 (xh : Int)]] w fun e w' => e = .returned (.tuple #[.agg #[.int .u64 0, .int .u64 0], .int .i64 (k : Int), .string ⟨#[]⟩]) ∧ Below w.heap.size w w' := by
  have HR := hid hR
  have hk' : ¬ (k : Int) = 0 := by omega
  clear hR hk
  go_enter Tryz.func36, Tryz.ntmps36
  go_wp2_with fail
  have B4 := blk_new (w.alloc (Obj.cells #[.int .u64 (xl : Int), .int .u64 (xh : Int)] 28)) (Obj.cells #[.int .u64 0, .int .u64 0] 28)
  have hW : Below w.heap.size w ((w.alloc (Obj.cells #[.int .u64 (xl : Int), .int .u64 (xh : Int)] 28)).alloc (Obj.cells #[.int .u64 0, .int .u64 0] 28)) := ((Below.refl _ _).alloc (Nat.le_refl _) _).alloc (by simp) _
  simp only [World.size_alloc] at B4
  generalize ((w.alloc (Obj.cells #[.int .u64 (xl : Int), .int .u64 (xh : Int)] 28)).alloc (Obj.cells #[.int .u64 0, .int .u64 0] 28)) = W1 at *
  refine Calls.mono (HR.out _ hW) ?_
  rintro e w0 ⟨rfl, hb0⟩
  have HB : Hid (Below w.heap.size w w0) := hW.trans (hb0.mono hW.size)
  have HK4 : Hid (w0.heap[w.heap.size + 1]? = _) := blk_below B4 hb0
  obtain ⟨z0, z1, z2, z3⟩ := blk2 HK4.out
  clear hW B4 hb0 HR
  go_wp2_with fail
  obtain ⟨p0, p1, -, -⟩ := blk2 (blk_store2 (a := .int .u64 0) (b := .int .u64 0) HK4.out)
  refine bodyPost_ret (v := .tuple #[.agg #[.int .u64 0, .int .u64 0], .int .i64 (k : Int), .string ⟨#[]⟩]) (by simp [results, Tryz.results36, go_sem, p0, p1]) rfl ?_
  exact ⟨rfl, (HB.out.setCell (by simp) _).setCell (by simp) _⟩

theorem refEval_any (ao : Option Addr) (n c : Nat) (ps : Nat → Nat) (xl xh : Nat) (w : World) (h : WdV w ao n ps) (hn : n * 8 ≤ 140737488355328) (h1 : xl < 18446744073709551616) (h2 : xh < 18446744073709551616) (al ah : Nat) (e1 : al = (makeN xl xh).1) (e2 : ah = (makeN xl xh).2.1) (r : Nat × Nat × Nat × ByteArray) (hr : r = evalN ps n (plT al) (plT ah)) :
    Calls Tryz.prog 36 #[.slice ao n c, .agg #[.int .u64 (xl : Int), .int .u64 (xh : Int)]] w fun e w' => e = .returned (.tuple #[.agg #[.int .u64 (r.1 : Int), .int .u64 (r.2.1 : Int)], .int .i64 (r.2.2.1 : Int), .string r.2.2.2]) ∧ Below w.heap.size w w' := by
  unfold evalN at hr
  have hR : ∀ W, Below w.heap.size w W → Calls Tryz.prog 80 #[.slice ao n c] W fun e w' => e = .returned (.int .i64 (rightN ps n : Int)) ∧ Below W.heap.size W w' := fun W hb => right_any ao n c ps W (h.below hb) hn
  by_cases h0 : rightN ps n ≠ 0
  · rw [if_pos h0] at hr
    subst hr
    exact refEval_bad ao n c _ xl xh w h0 hR
  · rw [if_neg h0] at hr
    have h0' : rightN ps n = 0 := Decidable.not_not.1 h0
    obtain ⟨hn1, hn9, hpl⟩ := right_plain h0'
    obtain ⟨m, rfl⟩ : ∃ m, n = m + 1 := ⟨n - 1, by omega⟩
    have hp := h.1
    have hk := hornK (xl := al) (xh := ah) h0' hp
    have e : r = (fun t => hornN ps (m + 1) (plT al) (plT ah) (m - t)) 0 := hr
    generalize (fun t => hornN ps (m + 1) (plT al) (plT ah) (m - t)) = H at *
    subst e
    obtain ⟨g, off, rfl, hg, hc⟩ := h.2.resolve_left (by omega)
    rw [h0'] at hR
    refine refEval_good g off m c ps xl xh al ah w hg hc (by omega) hR (fun i hi W => pointR_any (ps i) W (hp i hi)) (fun l h i W => ?_) (fun l h i k hk W => ?_) H hk
    · exact refOp_any 5 l h xl xh W i.lt1 i.lt2 h1 h2 l h al ah (by rw [make_iv i]) (by rw [make_iv i]) e1 e2 _ rfl
    · have ip := iv_point (hp k hk) (hpl k hk)
      exact refOp_any 3 l h _ _ W i.lt1 i.lt2 ip.lt1 ip.lt2 l h _ _ (by rw [make_iv i]) (by rw [make_iv i]) (by rw [make_iv ip]) (by rw [make_iv ip]) _ rfl
end Go.Proofs.YtonhpkigoplmaaaGreatDoor
namespace Go.Proofs.YtonhpkigoplmaaaGreatDoor
open Go.RowKit


/-- The boxes of piece. -/
structure QSt (w W : World) (g7 : Nat) (x a : Array Value) : Prop where
  k4 : W.heap[w.heap.size]? = some (.cells x 28 (0, 0))
  k7 : W.heap[g7]? = some (.cells a 98 (0, 0))
  hb : Below w.heap.size w W
theorem QSt.below {w W W' : World} {g7 : Nat} {x a : Array Value} (m : QSt w W g7 x a) (hb : Below W.heap.size W W') : QSt w W' g7 x a := ⟨blk_below m.k4 hb, blk_below m.k7 hb, m.hb.trans (hb.mono m.hb.size)⟩
theorem QSt.alloc {w W : World} {g7 : Nat} {x a : Array Value} (m : QSt w W g7 x a) (o : Obj) : QSt w (W.alloc o) g7 x a := m.below ((Below.refl _ _).alloc (Nat.le_refl _) o)

set_option maxHeartbeats 4000000 in
set_option maxRecDepth 100000 in
theorem piece_drop (po : Option Addr) (n pc : Nat) (dep : Int) (xl xh v1 v2 : Nat) (vs : ByteArray) (a1 a2 c1 c2 : Bool × Nat × Int) (w : World)
    (hM : MadeG #[.agg #[.int .u64 (xl : Int), .int .u64 (xh : Int)]] a1 a2)
    (hE : ∀ W, Below w.heap.size w W → Calls Tryz.prog 36 #[.slice po n pc, .agg #[.int .u64 (xl : Int), .int .u64 (xh : Int)]] W fun e w' => e = .returned (.tuple #[.agg #[.int .u64 (v1 : Int), .int .u64 (v2 : Int)], .int .i64 0, .string vs]) ∧ Below W.heap.size W w')
    (hV : MadeG #[.agg #[.int .u64 (v1 : Int), .int .u64 (v2 : Int)]] c1 c2) (hz : holdsT c1 c2 = false) :
    Calls Tryz.prog 82 #[.slice po n pc, .agg #[.int .u64 (xl : Int), .int .u64 (xh : Int)], .int .i64 dep] w fun e w' => e = .returned (.slice none 0 0) ∧ Below w.heap.size w w' := by
  have HM := hid hM
  have HE := hid hE
  have HV := hid hV
  have HZ : Hid (∀ (W : World) (v : Value), IvV W v c1 c2 → Calls Tryz.prog 121 #[v] W fun e w' => e = .returned (.bool false) ∧ Below W.heap.size W w') := fun W v h => by
    have := holds0_any v c1 c2 W h
    rwa [hz] at this
  clear hM hE hV hz
  go_enter Tryz.func82, Tryz.ntmps82
  go_wp2_with fail
  have B4 := blk_new w (Obj.cells #[.int .u64 (xl : Int), .int .u64 (xh : Int)] 28)
  have hW : Below w.heap.size w (w.alloc (Obj.cells #[.int .u64 (xl : Int), .int .u64 (xh : Int)] 28)) := (Below.refl _ _).alloc (Nat.le_refl _) _
  generalize (w.alloc (Obj.cells #[.int .u64 (xl : Int), .int .u64 (xh : Int)] 28)) = W1 at *
  refine Calls.mono (HM.out _) ?_
  rintro e w1 ⟨ao, la, ca, bo, lb, cb, rfl, hla, hlb, hna, hnb, hb1⟩
  have M1 : Hid (QSt w (w1.alloc (Obj.cells #[.bool a1.1, .slice ao la ca, .int .i64 a1.2.2, .bool a2.1, .slice bo lb cb, .int .i64 a2.2.2] 98)) w1.heap.size #[.int .u64 (xl : Int), .int .u64 (xh : Int)] #[.bool a1.1, .slice ao la ca, .int .i64 a1.2.2, .bool a2.1, .slice bo lb cb, .int .i64 a2.2.2]) := ⟨blk_old (blk_below B4 hb1) _, blk_new w1 _, (hW.trans (hb1.mono hW.size)).alloc (Nat.le_trans hW.size hb1.size) _⟩
  obtain ⟨x0, x1, -, -⟩ := blk2 (blk_below B4 hb1)
  have lx := lt_of_row (blk_below B4 hb1)
  clear B4 hW hb1 hla hlb hna hnb HM
  go_wp2_with fail
  clear x0 x1 lx
  generalize w1.heap.size = g7 at *
  generalize (w1.alloc (Obj.cells #[.bool a1.1, .slice ao la ca, .int .i64 a1.2.2, .bool a2.1, .slice bo lb cb, .int .i64 a2.2.2] 98)) = W2 at *
  refine Calls.mono (HE.out _ M1.out.hb) ?_
  rintro e w2 ⟨rfl, hb2⟩
  have M2 : Hid (QSt w (w2.alloc (Obj.cells #[.int .u64 (v1 : Int), .int .u64 (v2 : Int)] 28)) g7 #[.int .u64 (xl : Int), .int .u64 (xh : Int)] #[.bool a1.1, .slice ao la ca, .int .i64 a1.2.2, .bool a2.1, .slice bo lb cb, .int .i64 a2.2.2]) := (M1.out.below hb2).alloc _
  clear hb2 M1 HE
  go_wp2_with fail
  generalize (w2.alloc (Obj.cells #[.int .u64 (v1 : Int), .int .u64 (v2 : Int)] 28)) = W3 at *
  refine Calls.mono (HV.out _) ?_
  rintro e w3 ⟨co, lc, cc, do_, ld, cd, rfl, hlc, hld, hnc, hnd, hb3⟩
  have M3 : Hid (QSt w (w3.alloc (Obj.cells #[.bool c1.1, .slice co lc cc, .int .i64 c1.2.2, .bool c2.1, .slice do_ ld cd, .int .i64 c2.2.2] 98)) g7 #[.int .u64 (xl : Int), .int .u64 (xh : Int)] #[.bool a1.1, .slice ao la ca, .int .i64 a1.2.2, .bool a2.1, .slice bo lb cb, .int .i64 a2.2.2]) := (M2.out.below hb3).alloc _
  have IV : Hid (IvV (w3.alloc (Obj.cells #[.bool c1.1, .slice co lc cc, .int .i64 c1.2.2, .bool c2.1, .slice do_ ld cd, .int .i64 c2.2.2] 98)) (.agg #[.bool c1.1, .slice co lc cc, .int .i64 c1.2.2, .bool c2.1, .slice do_ ld cd, .int .i64 c2.2.2]) c1 c2) := ⟨co, lc, cc, do_, ld, cd, rfl, hlc, hld, hnc.below ((Below.refl _ _).alloc (Nat.le_refl _) _) (Nat.le_refl _), hnd.below ((Below.refl _ _).alloc (Nat.le_refl _) _) (Nat.le_refl _)⟩
  clear hb3 M2 HV hlc hld hnc hnd
  go_wp2_with fail
  generalize (w3.alloc (Obj.cells #[.bool c1.1, .slice co lc cc, .int .i64 c1.2.2, .bool c2.1, .slice do_ ld cd, .int .i64 c2.2.2] 98)) = W4 at *
  refine Calls.mono (HZ.out _ _ IV.out) ?_
  rintro e w4 ⟨rfl, hb4⟩
  have hF : Below w.heap.size w w4 := M3.out.hb.trans (hb4.mono M3.out.hb.size)
  clear hb4 M3 HZ IV
  go_wp2
  go_ret
  exact ⟨rfl, hF⟩
end Go.Proofs.YtonhpkigoplmaaaGreatDoor
