/-
  RefV, RefW, RefX.
-/
import Derived.Test.YtonhpkigoplmaaaGreatDoorP10
namespace Go.Proofs.YtonhpkigoplmaaaGreatDoor
open Go.RowKit

/-- Does an interval hold 0? -/
def holdsT (x y : Bool × Nat × Int) : Bool := decide (sgnI x.1 x.2.1 ≤ 0) && decide (0 ≤ sgnI y.1 y.2.1)

set_option maxHeartbeats 1000000 in
set_option maxRecDepth 100000 in
theorem holds0_any (v : Value) (x y : Bool × Nat × Int) (w : World) (h : IvV w v x y) :
    Calls Tryz.prog 121 #[v] w fun e w' => e = .returned (.bool (holdsT x y)) ∧ Below w.heap.size w w' := by
  obtain ⟨ao, la, ca, bo, lb, cb, rfl, hla, hlb, hna, hnb⟩ := h
  have HS1 : Hid (∀ w', Below w.heap.size w w' → Calls Tryz.prog 69 #[.agg #[.bool x.1, .slice ao la ca, .int .i64 x.2.2]] w' fun ev w'' => ev = .returned (.int .i64 (sgnI x.1 x.2.1)) ∧ Below w'.heap.size w' w'') := fun w' hb => sign_any _ x.1 x.2.1 x.2.2 w' ⟨_, _, _, rfl, hla, hna.below hb (Nat.le_refl _)⟩
  have HS2 : Hid (∀ w', Below w.heap.size w w' → Calls Tryz.prog 69 #[.agg #[.bool y.1, .slice bo lb cb, .int .i64 y.2.2]] w' fun ev w'' => ev = .returned (.int .i64 (sgnI y.1 y.2.1)) ∧ Below w'.heap.size w' w'') := fun w' hb => sign_any _ y.1 y.2.1 y.2.2 w' ⟨_, _, _, rfl, hlb, hnb.below hb (Nat.le_refl _)⟩
  have hT : Hid (holdsT x y = (decide (sgnI x.1 x.2.1 ≤ 0) && decide (0 ≤ sgnI y.1 y.2.1))) := rfl
  clear hla hlb hna hnb
  go_enter Tryz.func121, Tryz.ntmps121
  go_wp2_with fail
  have B0 := blk_new w (Obj.cells #[.bool x.1, .slice ao la ca, .int .i64 x.2.2, .bool y.1, .slice bo lb cb, .int .i64 y.2.2] 98)
  have hW := (Below.refl w.heap.size w).alloc (Nat.le_refl _) (Obj.cells #[.bool x.1, .slice ao la ca, .int .i64 x.2.2, .bool y.1, .slice bo lb cb, .int .i64 y.2.2] 98)
  generalize (w.alloc (Obj.cells #[.bool x.1, .slice ao la ca, .int .i64 x.2.2, .bool y.1, .slice bo lb cb, .int .i64 y.2.2] 98)) = W2 at *
  refine Calls.mono (HS1.out _ hW) ?_
  rintro ev w1 ⟨rfl, hb1⟩
  have hW1 : Below w.heap.size w w1 := hW.trans (hb1.mono hW.size)
  obtain ⟨k0, k1, k2, k3, k4, k5, -, -, -, -, -, -⟩ := blk6 (blk_below B0 hb1)
  clear hb1 hW B0 HS1
  have HW1 : Hid (Below w.heap.size w w1) := hW1
  clear hW1
  by_cases h1 : sgnI x.1 x.2.1 ≤ 0
  · have HT : Hid (∀ b, b = decide (0 ≤ sgnI y.1 y.2.1) → b = holdsT x y) := by
      intro b hb
      rw [hT.out, decide_eq_true h1, Bool.true_and, hb]
    clear hT
    generalize sgnI x.1 x.2.1 = sx at *
    go_wp2_with fail
    refine Calls.mono (HS2.out _ HW1.out) ?_
    rintro ev w2 ⟨rfl, hb2⟩
    have HW2 : Hid (Below w.heap.size w w2) := HW1.out.trans (hb2.mono HW1.out.size)
    clear hb2
    have HT3 : Hid (decide (0 ≤ sgnI y.1 y.2.1) = holdsT x y) := HT.out _ rfl
    clear HT
    go_wp2
    go_ret
    refine ⟨?_, HW2.out⟩
    show Ending.returned (Value.bool (decide (0 ≤ sgnI y.1 y.2.1))) = _
    rw [HT3.out]
  · have HT3 : Hid (false = holdsT x y) := by
      show _ = _
      rw [hT.out, decide_eq_false h1, Bool.false_and]
    clear hT
    generalize sgnI x.1 x.2.1 = sx at *
    go_wp2
    go_ret
    refine ⟨?_, HW1.out⟩
    show Ending.returned (Value.bool false) = _
    rw [HT3.out]

/-- What encloseref.named gives. -/
def nameT (r : Nat × Nat × Nat) (s : ByteArray) : Nat × Nat × Nat × ByteArray := if r.2.2 = 0 then (r.1, r.2.1, 0, ⟨#[]⟩) else (0, 0, r.2.2, s)

theorem named_any (a b k : Nat) (s : ByteArray) (w : World) :
    Calls Tryz.prog 66 #[.agg #[.int .u64 (a : Int), .int .u64 (b : Int)], .int .i64 (k : Int), .string s] w fun e w' => e = .returned (.tuple #[.agg #[.int .u64 ((nameT (a, b, k) s).1 : Int), .int .u64 ((nameT (a, b, k) s).2.1 : Int)], .int .i64 ((nameT (a, b, k) s).2.2.1 : Int), .string (nameT (a, b, k) s).2.2.2]) ∧ Below w.heap.size w w' := by
  by_cases h0 : k = 0
  · subst h0
    have e : Hid (nameT (a, b, 0) s = (a, b, 0, ⟨#[]⟩)) := by show _ = _; unfold nameT; rw [if_pos rfl]
    go_enter Tryz.func66, Tryz.ntmps66
    go_wp2_with fail
    refine bodyPost_ret (v := .tuple #[.agg #[.int .u64 (a : Int), .int .u64 (b : Int)], .int .i64 0, .string ⟨#[]⟩]) (by simp [results, Tryz.results66, go_sem]) rfl ?_
    rw [e.out]
    exact ⟨rfl, by first | exact ((Below.refl _ _).alloc (Nat.le_refl _) _).alloc (by simp) _ | exact (((Below.refl _ _).alloc (Nat.le_refl _) _).alloc (by simp) _).drew⟩
  · have e : Hid (nameT (a, b, k) s = (0, 0, k, s)) := by show _ = _; unfold nameT; rw [if_neg h0]
    have hk : ((k : Int) == 0) = false := by rw [beq_eq_false_iff_ne]; omega
    go_enter Tryz.func66, Tryz.ntmps66
    go_wp2_with fail
    refine bodyPost_ret (v := .tuple #[.agg #[.int .u64 0, .int .u64 0], .int .i64 (k : Int), .string s]) (by simp [results, Tryz.results66, go_sem]) rfl ?_
    rw [e.out]
    exact ⟨rfl, by first | exact ((Below.refl _ _).alloc (Nat.le_refl _) _).alloc (by simp) _ | exact (((Below.refl _ _).alloc (Nat.le_refl _) _).alloc (by simp) _).drew⟩
end Go.Proofs.YtonhpkigoplmaaaGreatDoor
namespace Go.Proofs.YtonhpkigoplmaaaGreatDoor
open Go.RowKit

/-- Four numbers in a row. -/
structure Four (w : World) (g : Nat) (x : Nat → Bool × Nat × Int) (O : Nat → Option Addr) (L C : Nat → Nat) : Prop where
  lt : g < w.heap.size
  c0 : ∀ i, i < 4 → w.cell? ⟨g, i * 3, none⟩ = some (.bool (x i).1)
  c1 : ∀ i, i < 4 → w.cell? ⟨g, i * 3 + 1, none⟩ = some (.slice (O i) (L i) (C i))
  c2 : ∀ i, i < 4 → w.cell? ⟨g, i * 3 + 2, none⟩ = some (.int .i64 (x i).2.2)
  len : ∀ i, i < 4 → L i = (digits (x i).2.1).length
  nat : ∀ i, i < 4 → NatV w (.slice (O i) (L i) (C i)) (x i).2.1
  small : ∀ i, i < 4 → Small (x i) ∧ (digits (x i).2.1).length ≤ 400000

def lessT (x y : Bool × Nat × Int) : Bool := lessN x.1 x.2.1 x.2.2 y.1 y.2.1 y.2.2

/-- Which one is the least, the greatest of the first ones. -/
def ixLo (x : Nat → Bool × Nat × Int) : Nat → Nat
  | 0 => 0
  | i + 1 => if lessT (x (i + 1)) (x (ixLo x i)) then i + 1 else ixLo x i
def ixHi (x : Nat → Bool × Nat × Int) : Nat → Nat
  | 0 => 0
  | i + 1 => if lessT (x (ixHi x i)) (x (i + 1)) then i + 1 else ixHi x i

theorem ixLo_le (x : Nat → Bool × Nat × Int) : ∀ i, ixLo x i ≤ i
  | 0 => Nat.le_refl _
  | i + 1 => by unfold ixLo; have := ixLo_le x i; split <;> omega
theorem ixHi_le (x : Nat → Bool × Nat × Int) : ∀ i, ixHi x i ≤ i
  | 0 => Nat.le_refl _
  | i + 1 => by unfold ixHi; have := ixHi_le x i; split <;> omega

theorem Four.numV {w w' : World} {g : Nat} {x : Nat → Bool × Nat × Int} {O : Nat → Option Addr} {L C : Nat → Nat} (h : Four w g x O L C) (hb : Below w.heap.size w w') {i : Nat} (hi : i < 4) : NumV w' (.agg #[.bool (x i).1, .slice (O i) (L i) (C i), .int .i64 (x i).2.2]) (x i).1 (x i).2.1 (x i).2.2 :=
  ⟨_, _, _, rfl, h.len i hi, (h.nat i hi).below hb (Nat.le_refl _)⟩

theorem Four.less {w w' : World} {g : Nat} {x : Nat → Bool × Nat × Int} {O : Nat → Option Addr} {L C : Nat → Nat} (h : Four w g x O L C) (hb : Below w.heap.size w w') {i j : Nat} (hi : i < 4) (hj : j < 4) :
    Calls Tryz.prog 58 #[.agg #[.bool (x i).1, .slice (O i) (L i) (C i), .int .i64 (x i).2.2], .agg #[.bool (x j).1, .slice (O j) (L j) (C j), .int .i64 (x j).2.2]] w' fun ev w'' => ev = .returned (.bool (lessT (x i) (x j))) ∧ Below w'.heap.size w' w'' := by
  obtain ⟨⟨_, a2, a3⟩, a4⟩ := h.small i hi
  obtain ⟨⟨_, b2, b3⟩, b4⟩ := h.small j hj
  exact less_any _ _ _ _ _ _ _ _ w' (h.numV hb hi) (h.numV hb hj) a4 b4 (by omega) (by omega) (by omega) (by omega)

/-- The two boxes ahead of the stores. -/
structure SpanStep (w w5 : World) (x : Nat → Bool × Nat × Int) (O : Nat → Option Addr) (L C : Nat → Nat) (a b : Nat) (xi : Bool × Nat × Int) (oi : Option Addr) (li ci : Nat) : Prop where
  k1 : w5.heap[w.heap.size + 1]? = some (.cells #[.bool (x a).1, .slice (O a) (L a) (C a), .int .i64 (x a).2.2] 92 (0, 0))
  k2 : w5.heap[w.heap.size + 1 + 1]? = some (.cells #[.bool (x b).1, .slice (O b) (L b) (C b), .int .i64 (x b).2.2] 92 (0, 0))
  k0 : w5.heap[w.heap.size]? = some (.cells #[.int .u64 0, .int .u64 0] 28 (0, 0))
  hb : Below w.heap.size w w5

set_option maxHeartbeats 1000000 in
set_option maxRecDepth 100000 in
theorem span_any (g : Nat) (x : Nat → Bool × Nat × Int) (O : Nat → Option Addr) (L C : Nat → Nat) (w : World) (h : Four w g x O L C) :
    Calls Tryz.prog 63 #[.slice (some ⟨g, 0, none⟩) 4 4] w fun ev w' => ev = .returned (.tuple #[.agg #[.int .u64 ((aroundN (x (ixLo x 3)) (x (ixHi x 3))).1 : Int), .int .u64 ((aroundN (x (ixLo x 3)) (x (ixHi x 3))).2.1 : Int)], .int .i64 ((aroundN (x (ixLo x 3)) (x (ixHi x 3))).2.2 : Int)]) ∧ Below w.heap.size w w' := by
  have q0 : w.cell? ⟨g, 0, none⟩ = some (.bool (x 0).1) := h.c0 0 (by omega)
  have q1 : w.cell? ⟨g, 1, none⟩ = some (.slice (O 0) (L 0) (C 0)) := h.c1 0 (by omega)
  have q2 : w.cell? ⟨g, 2, none⟩ = some (.int .i64 (x 0).2.2) := h.c2 0 (by omega)
  have hlt := h.lt
  have H : Hid (Four w g x O L C) := h
  clear h
  go_enter Tryz.func63, Tryz.ntmps63
  go_wp2_with fail
  clear q0 q1 q2
  go_loopw [6] (fun v6 wr => ∃ i : Nat, i < 4 ∧ v6 = .int .i64 ((i + 1 : Nat) : Int) ∧ wr.heap[w.heap.size + 1]? = some (.cells #[.bool (x (ixLo x i)).1, .slice (O (ixLo x i)) (L (ixLo x i)) (C (ixLo x i)), .int .i64 (x (ixLo x i)).2.2] 92 (0, 0)) ∧ wr.heap[w.heap.size + 1 + 1]? = some (.cells #[.bool (x (ixHi x i)).1, .slice (O (ixHi x i)) (L (ixHi x i)) (C (ixHi x i)), .int .i64 (x (ixHi x i)).2.2] 92 (0, 0)) ∧ wr.heap[w.heap.size]? = some (.cells #[.int .u64 0, .int .u64 0] 28 (0, 0)) ∧ Below w.heap.size w wr) (fun v6 _ => 4 - (intOf v6).toNat)
  case atStart =>
    have B0 := blk_old (blk_old (blk_new w (Obj.cells #[.int .u64 0, .int .u64 0] 28)) (Obj.cells #[.bool (x 0).1, .slice (O 0) (L 0) (C 0), .int .i64 (x 0).2.2] 92)) (Obj.cells #[.bool (x 0).1, .slice (O 0) (L 0) (C 0), .int .i64 (x 0).2.2] 92)
    have B1 := blk_old (blk_new (w.alloc (Obj.cells #[.int .u64 0, .int .u64 0] 28)) (Obj.cells #[.bool (x 0).1, .slice (O 0) (L 0) (C 0), .int .i64 (x 0).2.2] 92)) (Obj.cells #[.bool (x 0).1, .slice (O 0) (L 0) (C 0), .int .i64 (x 0).2.2] 92)
    have B2 := blk_new ((w.alloc (Obj.cells #[.int .u64 0, .int .u64 0] 28)).alloc (Obj.cells #[.bool (x 0).1, .slice (O 0) (L 0) (C 0), .int .i64 (x 0).2.2] 92)) (Obj.cells #[.bool (x 0).1, .slice (O 0) (L 0) (C 0), .int .i64 (x 0).2.2] 92)
    simp only [World.size_alloc] at B1 B2
    exact ⟨0, by omega, rfl, B1, B2, B0, (((Below.refl _ _).alloc (Nat.le_refl _) _).alloc (by simp) _).alloc (by simp; omega) _⟩
  case round =>
    obtain ⟨i, hi, rfl, K1, K2, K0, hbr⟩ := hrel
    have la := ixLo_le x i
    have lb := ixHi_le x i
    by_cases h3 : i = 3
    · subst h3
      have ha := H.out.small (ixLo x 3) (by omega)
      have hb := H.out.small (ixHi x 3) (by omega)
      have nl := H.out.numV hbr (i := ixLo x 3) (by omega)
      have nh := H.out.numV hbr (i := ixHi x 3) (by omega)
      have HA : Hid (∀ w', Below wr.heap.size wr w' → Calls Tryz.prog 62 #[.agg #[.bool (x (ixLo x 3)).1, .slice (O (ixLo x 3)) (L (ixLo x 3)) (C (ixLo x 3)), .int .i64 (x (ixLo x 3)).2.2], .agg #[.bool (x (ixHi x 3)).1, .slice (O (ixHi x 3)) (L (ixHi x 3)) (C (ixHi x 3)), .int .i64 (x (ixHi x 3)).2.2]] w' fun e w'' => e = .returned (.tuple #[.agg #[.int .u64 ((aroundN (x (ixLo x 3)) (x (ixHi x 3))).1 : Int), .int .u64 ((aroundN (x (ixLo x 3)) (x (ixHi x 3))).2.1 : Int)], .int .i64 ((aroundN (x (ixLo x 3)) (x (ixHi x 3))).2.2 : Int)]) ∧ Below w'.heap.size w' w'') := fun w' hb' => around_any _ _ _ _ w' (nl.below hb' (Nat.le_refl _)) (nh.below hb' (Nat.le_refl _)) ha.1 hb.1
      obtain ⟨a0, a1, a2, -, -, -⟩ := blk3 K1
      obtain ⟨b0, b1, b2, -, -, -⟩ := blk3 K2
      have HK0 : Hid (wr.heap[w.heap.size]? = _) := K0
      have HBR : Hid (Below w.heap.size w wr) := hbr
      clear ha hb nl nh K0 K1 K2 hbr la lb
      go_wp2_with fail
      refine Calls.mono (HA.out _ (Below.refl _ _)) ?_
      rintro ev w3 ⟨rfl, hb3⟩
      have HB4 : Hid (Below w.heap.size w w3) := HBR.out.trans (hb3.mono HBR.out.size)
      have HK3 : Hid (w3.heap[w.heap.size]? = _) := blk_below HK0.out hb3
      obtain ⟨k0, k1, k2, k3⟩ := blk2 HK3.out
      clear hb3 HA HBR HK0 a0 a1 a2 b0 b1 b2
      go_wp2_with fail
      refine bodyPost_ret (v := .tuple #[.agg #[.int .u64 ((aroundN (x (ixLo x 3)) (x (ixHi x 3))).1 : Int), .int .u64 ((aroundN (x (ixLo x 3)) (x (ixHi x 3))).2.1 : Int)], .int .i64 ((aroundN (x (ixLo x 3)) (x (ixHi x 3))).2.2 : Int)]) (by simp [results, Tryz.results63, go_sem, k0, k1]) rfl ?_
      exact ⟨rfl, (HB4.out.setCell (by simp) _).setCell (by simp) _⟩
    · have hi1 : i + 1 < 4 := by omega
      have d0 := (hbr.cell (p := ⟨g, (i + 1) * 3, none⟩) hlt).trans (H.out.c0 (i + 1) hi1)
      have d1 := (hbr.cell (p := ⟨g, (i + 1) * 3 + 1, none⟩) hlt).trans (H.out.c1 (i + 1) hi1)
      have d2 := (hbr.cell (p := ⟨g, (i + 1) * 3 + 2, none⟩) hlt).trans (H.out.c2 (i + 1) hi1)
      obtain ⟨a0, a1, a2, -, -, -⟩ := blk3 K1
      obtain ⟨b0, b1, b2, -, -, -⟩ := blk3 K2
      have HK1 : Hid (wr.drew.heap[w.heap.size + 1]? = _) := K1
      have HK2 : Hid (wr.drew.heap[w.heap.size + 1 + 1]? = _) := K2
      have HK0 : Hid (wr.drew.heap[w.heap.size]? = _) := K0
      have HBR : Hid (Below w.heap.size w wr.drew) := hbr.drew
      have e1 : Hid (ixLo x (i + 1) = if lessT (x (i + 1)) (x (ixLo x i)) then i + 1 else ixLo x i) := rfl
      have e2 : Hid (ixHi x (i + 1) = if lessT (x (ixHi x i)) (x (i + 1)) then i + 1 else ixHi x i) := rfl
      generalize hA : ixLo x i = a at *
      generalize hB : ixHi x i = b at *
      have ha4 : a < 4 := by omega
      have hb4 : b < 4 := by omega
      have HL1 : Hid (∀ w', Below w.heap.size w w' → Calls Tryz.prog 58 #[.agg #[.bool (x (i + 1)).1, .slice (O (i + 1)) (L (i + 1)) (C (i + 1)), .int .i64 (x (i + 1)).2.2], .agg #[.bool (x a).1, .slice (O a) (L a) (C a), .int .i64 (x a).2.2]] w' fun ev w'' => ev = .returned (.bool (lessT (x (i + 1)) (x a))) ∧ Below w'.heap.size w' w'') := fun w' hb => H.out.less hb hi1 ha4
      have HL2 : Hid (∀ w', Below w.heap.size w w' → Calls Tryz.prog 58 #[.agg #[.bool (x b).1, .slice (O b) (L b) (C b), .int .i64 (x b).2.2], .agg #[.bool (x (i + 1)).1, .slice (O (i + 1)) (L (i + 1)) (C (i + 1)), .int .i64 (x (i + 1)).2.2]] w' fun ev w'' => ev = .returned (.bool (lessT (x b) (x (i + 1)))) ∧ Below w'.heap.size w' w'') := fun w' hb => H.out.less hb hb4 hi1
      have HD : Hid (∀ w', Below w.heap.size w w' → w'.cell? ⟨g, (i + 1) * 3, none⟩ = some (.bool (x (i + 1)).1) ∧ w'.cell? ⟨g, (i + 1) * 3 + 1, none⟩ = some (.slice (O (i + 1)) (L (i + 1)) (C (i + 1))) ∧ w'.cell? ⟨g, (i + 1) * 3 + 2, none⟩ = some (.int .i64 (x (i + 1)).2.2)) := fun w' hb => ⟨(hb.cell (p := ⟨g, (i + 1) * 3, none⟩) hlt).trans (H.out.c0 (i + 1) hi1), (hb.cell (p := ⟨g, (i + 1) * 3 + 1, none⟩) hlt).trans (H.out.c1 (i + 1) hi1), (hb.cell (p := ⟨g, (i + 1) * 3 + 2, none⟩) hlt).trans (H.out.c2 (i + 1) hi1)⟩
      generalize hX : x (i + 1) = xi at *
      generalize hO : O (i + 1) = oi at *
      generalize hL : L (i + 1) = li at *
      generalize hC : C (i + 1) = ci at *
      have HX : Hid (x (i + 1) = xi ∧ O (i + 1) = oi ∧ L (i + 1) = li ∧ C (i + 1) = ci) := ⟨hX, hO, hL, hC⟩
      have HI : Hid (i + 1 < 4) := hi1
      clear K0 K1 K2 hbr la lb hX hO hL hC hA hB ha4 hb4 hi1 hi
      rcases (show i = 0 ∨ i = 1 ∨ i = 2 by have := HI.out; omega) with rfl | rfl | rfl
      all_goals
        clear h3
        simp only [Nat.zero_add, Nat.reduceAdd, Nat.reduceMul] at d0 d1 d2 HD
        go_wp2_with fail
      · go_region_held3 (fun W => W.cell? ⟨g, 3, none⟩ = some (.bool xi.1) ∧ W.cell? ⟨g, 4, none⟩ = some (.slice oi li ci) ∧ W.cell? ⟨g, 5, none⟩ = some (.int .i64 xi.2.2) ∧ W.cell? ⟨w.heap.size + 1, 0, none⟩ = some (.bool (x a).1) ∧ W.cell? ⟨w.heap.size + 1, 1, none⟩ = some (.slice (O a) (L a) (C a)) ∧ W.cell? ⟨w.heap.size + 1, 2, none⟩ = some (.int .i64 (x a).2.2)) (first | (go_keep; done) | (refine ⟨?_, ?_, ?_, ?_, ?_, ?_⟩ <;> first | (go_keep; done) | assumption))
          (first | (go_at_call 58; refine Calls.mono (HL1.out _ HBR.out) ?_; rintro e w3 ⟨rfl, hb3⟩
                    have HB3 : Hid (Below _ _ w3) := hb3
                    obtain ⟨d0, d1, d2⟩ := HD.out _ (HBR.out.trans (hb3.mono HBR.out.size))
                    obtain ⟨a0, a1, a2, -, -, -⟩ := blk3 (blk_below HK1.out hb3)
                    obtain ⟨b0, b1, b2, -, -, -⟩ := blk3 (blk_below HK2.out hb3)
                    clear hb3))
        have M1 := blk_below HK1.out HB3.out
        have HM1 : Hid (w3.drew.heap[w.heap.size + 1]? = _) := M1
        clear M1
        have M2 := blk_below HK2.out HB3.out
        have HM2 : Hid (w3.drew.heap[w.heap.size + 1 + 1]? = _) := M2
        clear M2
        have M0 := blk_below HK0.out HB3.out
        have HM0 : Hid (w3.drew.heap[w.heap.size]? = _) := M0
        clear M0
        have HB4 : Hid (Below w.heap.size w w3.drew) := (HBR.out.trans (HB3.out.mono HBR.out.size)).drew
        clear HK1 HK2 HK0 HBR HB3 HL1
        go_wp2_with fail
        go_region_held3 (fun W => W.cell? ⟨g, 3, none⟩ = some (.bool xi.1) ∧ W.cell? ⟨g, 4, none⟩ = some (.slice oi li ci) ∧ W.cell? ⟨g, 5, none⟩ = some (.int .i64 xi.2.2) ∧ W.cell? ⟨w.heap.size + 1 + 1, 0, none⟩ = some (.bool (x b).1) ∧ W.cell? ⟨w.heap.size + 1 + 1, 1, none⟩ = some (.slice (O b) (L b) (C b)) ∧ W.cell? ⟨w.heap.size + 1 + 1, 2, none⟩ = some (.int .i64 (x b).2.2)) (first | (go_keep; done) | (refine ⟨?_, ?_, ?_, ?_, ?_, ?_⟩ <;> first | (go_keep; done) | assumption))
          (first | (go_at_call 58; refine Calls.mono (HL2.out _ HB4.out) ?_; rintro e w5 ⟨rfl, hb5⟩
                    have HB5 : Hid (Below _ _ w5) := hb5
                    obtain ⟨d0, d1, d2⟩ := HD.out _ (HB4.out.trans (hb5.mono HB4.out.size))
                    obtain ⟨a0, a1, a2, a3, a4, a5⟩ := blk3 (blk_below HM1.out hb5)
                    obtain ⟨b0, b1, b2, b3, b4, b5⟩ := blk3 (blk_below HM2.out hb5)
                    clear hb5))
        have HN1 : Hid (w5.heap[w.heap.size + 1]? = _) := blk_below HM1.out HB5.out
        have HN2 : Hid (w5.heap[w.heap.size + 1 + 1]? = _) := blk_below HM2.out HB5.out
        have HN0 : Hid (w5.heap[w.heap.size]? = _) := blk_below HM0.out HB5.out
        have HB6 : Hid (Below w.heap.size w w5) := HB4.out.trans (HB5.out.mono HB4.out.size)
        have step : Hid (SpanStep w w5 x O L C a b xi oi li ci) := ⟨HN1.out, HN2.out, HN0.out, HB6.out⟩
        clear HM1 HM2 HM0 HB4 HB5 HL2 HN1 HN2 HN0 HB6 HD
        have gx := hlt
        cases t1 : lessT xi (x a) <;> cases t2 : lessT (x b) xi
        all_goals
          have F1 := e1.out
          have F2 := e2.out
          rw [t1] at F1
          rw [t2] at F2
          simp only [Bool.false_eq_true, if_false, if_true] at F1 F2
          have E1 : Hid (ixLo x _ = _) := F1
          have E2 : Hid (ixHi x _ = _) := F2
          clear F1 F2 e1 e2
          go_wp2
          go_roundw
          case measure => simp [intOf]
        · exact ⟨1, by omega, rfl, by rw [E1.out]; exact step.out.k1, by rw [E2.out]; exact step.out.k2, step.out.k0, step.out.hb⟩
        · refine ⟨1, by omega, rfl, by rw [E1.out]; exact blk_store3_ne step.out.k1 (by omega), ?_, blk_store3_ne step.out.k0 (by omega), ((step.out.hb.setCell (by simp; omega) _).setCell (by simp; omega) _).setCell (by simp; omega) _⟩
          rw [E2.out, HX.out.1, HX.out.2.1, HX.out.2.2.1, HX.out.2.2.2]
          exact blk_store3 step.out.k2
        · refine ⟨1, by omega, rfl, ?_, by rw [E2.out]; exact blk_store3_ne step.out.k2 (by omega), blk_store3_ne step.out.k0 (by omega), ((step.out.hb.setCell (by simp) _).setCell (by simp) _).setCell (by simp) _⟩
          rw [E1.out, HX.out.1, HX.out.2.1, HX.out.2.2.1, HX.out.2.2.2]
          exact blk_store3 step.out.k1
        · refine ⟨1, by omega, rfl, ?_, ?_, blk_store3_ne (blk_store3_ne step.out.k0 (by omega)) (by omega), ((((((step.out.hb.setCell (by simp) _).setCell (by simp) _).setCell (by simp) _).setCell (by simp; omega) _).setCell (by simp; omega) _).setCell (by simp; omega) _)⟩
          · rw [E1.out, HX.out.1, HX.out.2.1, HX.out.2.2.1, HX.out.2.2.2]
            exact blk_store3_ne (blk_store3 step.out.k1) (by omega)
          · rw [E2.out, HX.out.1, HX.out.2.1, HX.out.2.2.1, HX.out.2.2.2]
            exact blk_store3 (blk_store3_ne step.out.k2 (by omega))
      · go_region_held3 (fun W => W.cell? ⟨g, 6, none⟩ = some (.bool xi.1) ∧ W.cell? ⟨g, 7, none⟩ = some (.slice oi li ci) ∧ W.cell? ⟨g, 8, none⟩ = some (.int .i64 xi.2.2) ∧ W.cell? ⟨w.heap.size + 1, 0, none⟩ = some (.bool (x a).1) ∧ W.cell? ⟨w.heap.size + 1, 1, none⟩ = some (.slice (O a) (L a) (C a)) ∧ W.cell? ⟨w.heap.size + 1, 2, none⟩ = some (.int .i64 (x a).2.2)) (first | (go_keep; done) | (refine ⟨?_, ?_, ?_, ?_, ?_, ?_⟩ <;> first | (go_keep; done) | assumption))
          (first | (go_at_call 58; refine Calls.mono (HL1.out _ HBR.out) ?_; rintro e w3 ⟨rfl, hb3⟩
                    have HB3 : Hid (Below _ _ w3) := hb3
                    obtain ⟨d0, d1, d2⟩ := HD.out _ (HBR.out.trans (hb3.mono HBR.out.size))
                    obtain ⟨a0, a1, a2, -, -, -⟩ := blk3 (blk_below HK1.out hb3)
                    obtain ⟨b0, b1, b2, -, -, -⟩ := blk3 (blk_below HK2.out hb3)
                    clear hb3))
        have M1 := blk_below HK1.out HB3.out
        have HM1 : Hid (w3.drew.heap[w.heap.size + 1]? = _) := M1
        clear M1
        have M2 := blk_below HK2.out HB3.out
        have HM2 : Hid (w3.drew.heap[w.heap.size + 1 + 1]? = _) := M2
        clear M2
        have M0 := blk_below HK0.out HB3.out
        have HM0 : Hid (w3.drew.heap[w.heap.size]? = _) := M0
        clear M0
        have HB4 : Hid (Below w.heap.size w w3.drew) := (HBR.out.trans (HB3.out.mono HBR.out.size)).drew
        clear HK1 HK2 HK0 HBR HB3 HL1
        go_wp2_with fail
        go_region_held3 (fun W => W.cell? ⟨g, 6, none⟩ = some (.bool xi.1) ∧ W.cell? ⟨g, 7, none⟩ = some (.slice oi li ci) ∧ W.cell? ⟨g, 8, none⟩ = some (.int .i64 xi.2.2) ∧ W.cell? ⟨w.heap.size + 1 + 1, 0, none⟩ = some (.bool (x b).1) ∧ W.cell? ⟨w.heap.size + 1 + 1, 1, none⟩ = some (.slice (O b) (L b) (C b)) ∧ W.cell? ⟨w.heap.size + 1 + 1, 2, none⟩ = some (.int .i64 (x b).2.2)) (first | (go_keep; done) | (refine ⟨?_, ?_, ?_, ?_, ?_, ?_⟩ <;> first | (go_keep; done) | assumption))
          (first | (go_at_call 58; refine Calls.mono (HL2.out _ HB4.out) ?_; rintro e w5 ⟨rfl, hb5⟩
                    have HB5 : Hid (Below _ _ w5) := hb5
                    obtain ⟨d0, d1, d2⟩ := HD.out _ (HB4.out.trans (hb5.mono HB4.out.size))
                    obtain ⟨a0, a1, a2, a3, a4, a5⟩ := blk3 (blk_below HM1.out hb5)
                    obtain ⟨b0, b1, b2, b3, b4, b5⟩ := blk3 (blk_below HM2.out hb5)
                    clear hb5))
        have HN1 : Hid (w5.heap[w.heap.size + 1]? = _) := blk_below HM1.out HB5.out
        have HN2 : Hid (w5.heap[w.heap.size + 1 + 1]? = _) := blk_below HM2.out HB5.out
        have HN0 : Hid (w5.heap[w.heap.size]? = _) := blk_below HM0.out HB5.out
        have HB6 : Hid (Below w.heap.size w w5) := HB4.out.trans (HB5.out.mono HB4.out.size)
        have step : Hid (SpanStep w w5 x O L C a b xi oi li ci) := ⟨HN1.out, HN2.out, HN0.out, HB6.out⟩
        clear HM1 HM2 HM0 HB4 HB5 HL2 HN1 HN2 HN0 HB6 HD
        have gx := hlt
        cases t1 : lessT xi (x a) <;> cases t2 : lessT (x b) xi
        all_goals
          have F1 := e1.out
          have F2 := e2.out
          rw [t1] at F1
          rw [t2] at F2
          simp only [Bool.false_eq_true, if_false, if_true] at F1 F2
          have E1 : Hid (ixLo x _ = _) := F1
          have E2 : Hid (ixHi x _ = _) := F2
          clear F1 F2 e1 e2
          go_wp2
          go_roundw
          case measure => simp [intOf]
        · exact ⟨2, by omega, rfl, by rw [E1.out]; exact step.out.k1, by rw [E2.out]; exact step.out.k2, step.out.k0, step.out.hb⟩
        · refine ⟨2, by omega, rfl, by rw [E1.out]; exact blk_store3_ne step.out.k1 (by omega), ?_, blk_store3_ne step.out.k0 (by omega), ((step.out.hb.setCell (by simp; omega) _).setCell (by simp; omega) _).setCell (by simp; omega) _⟩
          rw [E2.out, HX.out.1, HX.out.2.1, HX.out.2.2.1, HX.out.2.2.2]
          exact blk_store3 step.out.k2
        · refine ⟨2, by omega, rfl, ?_, by rw [E2.out]; exact blk_store3_ne step.out.k2 (by omega), blk_store3_ne step.out.k0 (by omega), ((step.out.hb.setCell (by simp) _).setCell (by simp) _).setCell (by simp) _⟩
          rw [E1.out, HX.out.1, HX.out.2.1, HX.out.2.2.1, HX.out.2.2.2]
          exact blk_store3 step.out.k1
        · refine ⟨2, by omega, rfl, ?_, ?_, blk_store3_ne (blk_store3_ne step.out.k0 (by omega)) (by omega), ((((((step.out.hb.setCell (by simp) _).setCell (by simp) _).setCell (by simp) _).setCell (by simp; omega) _).setCell (by simp; omega) _).setCell (by simp; omega) _)⟩
          · rw [E1.out, HX.out.1, HX.out.2.1, HX.out.2.2.1, HX.out.2.2.2]
            exact blk_store3_ne (blk_store3 step.out.k1) (by omega)
          · rw [E2.out, HX.out.1, HX.out.2.1, HX.out.2.2.1, HX.out.2.2.2]
            exact blk_store3 (blk_store3_ne step.out.k2 (by omega))
      · go_region_held3 (fun W => W.cell? ⟨g, 9, none⟩ = some (.bool xi.1) ∧ W.cell? ⟨g, 10, none⟩ = some (.slice oi li ci) ∧ W.cell? ⟨g, 11, none⟩ = some (.int .i64 xi.2.2) ∧ W.cell? ⟨w.heap.size + 1, 0, none⟩ = some (.bool (x a).1) ∧ W.cell? ⟨w.heap.size + 1, 1, none⟩ = some (.slice (O a) (L a) (C a)) ∧ W.cell? ⟨w.heap.size + 1, 2, none⟩ = some (.int .i64 (x a).2.2)) (first | (go_keep; done) | (refine ⟨?_, ?_, ?_, ?_, ?_, ?_⟩ <;> first | (go_keep; done) | assumption))
          (first | (go_at_call 58; refine Calls.mono (HL1.out _ HBR.out) ?_; rintro e w3 ⟨rfl, hb3⟩
                    have HB3 : Hid (Below _ _ w3) := hb3
                    obtain ⟨d0, d1, d2⟩ := HD.out _ (HBR.out.trans (hb3.mono HBR.out.size))
                    obtain ⟨a0, a1, a2, -, -, -⟩ := blk3 (blk_below HK1.out hb3)
                    obtain ⟨b0, b1, b2, -, -, -⟩ := blk3 (blk_below HK2.out hb3)
                    clear hb3))
        have M1 := blk_below HK1.out HB3.out
        have HM1 : Hid (w3.drew.heap[w.heap.size + 1]? = _) := M1
        clear M1
        have M2 := blk_below HK2.out HB3.out
        have HM2 : Hid (w3.drew.heap[w.heap.size + 1 + 1]? = _) := M2
        clear M2
        have M0 := blk_below HK0.out HB3.out
        have HM0 : Hid (w3.drew.heap[w.heap.size]? = _) := M0
        clear M0
        have HB4 : Hid (Below w.heap.size w w3.drew) := (HBR.out.trans (HB3.out.mono HBR.out.size)).drew
        clear HK1 HK2 HK0 HBR HB3 HL1
        go_wp2_with fail
        go_region_held3 (fun W => W.cell? ⟨g, 9, none⟩ = some (.bool xi.1) ∧ W.cell? ⟨g, 10, none⟩ = some (.slice oi li ci) ∧ W.cell? ⟨g, 11, none⟩ = some (.int .i64 xi.2.2) ∧ W.cell? ⟨w.heap.size + 1 + 1, 0, none⟩ = some (.bool (x b).1) ∧ W.cell? ⟨w.heap.size + 1 + 1, 1, none⟩ = some (.slice (O b) (L b) (C b)) ∧ W.cell? ⟨w.heap.size + 1 + 1, 2, none⟩ = some (.int .i64 (x b).2.2)) (first | (go_keep; done) | (refine ⟨?_, ?_, ?_, ?_, ?_, ?_⟩ <;> first | (go_keep; done) | assumption))
          (first | (go_at_call 58; refine Calls.mono (HL2.out _ HB4.out) ?_; rintro e w5 ⟨rfl, hb5⟩
                    have HB5 : Hid (Below _ _ w5) := hb5
                    obtain ⟨d0, d1, d2⟩ := HD.out _ (HB4.out.trans (hb5.mono HB4.out.size))
                    obtain ⟨a0, a1, a2, a3, a4, a5⟩ := blk3 (blk_below HM1.out hb5)
                    obtain ⟨b0, b1, b2, b3, b4, b5⟩ := blk3 (blk_below HM2.out hb5)
                    clear hb5))
        have HN1 : Hid (w5.heap[w.heap.size + 1]? = _) := blk_below HM1.out HB5.out
        have HN2 : Hid (w5.heap[w.heap.size + 1 + 1]? = _) := blk_below HM2.out HB5.out
        have HN0 : Hid (w5.heap[w.heap.size]? = _) := blk_below HM0.out HB5.out
        have HB6 : Hid (Below w.heap.size w w5) := HB4.out.trans (HB5.out.mono HB4.out.size)
        have step : Hid (SpanStep w w5 x O L C a b xi oi li ci) := ⟨HN1.out, HN2.out, HN0.out, HB6.out⟩
        clear HM1 HM2 HM0 HB4 HB5 HL2 HN1 HN2 HN0 HB6 HD
        have gx := hlt
        cases t1 : lessT xi (x a) <;> cases t2 : lessT (x b) xi
        all_goals
          have F1 := e1.out
          have F2 := e2.out
          rw [t1] at F1
          rw [t2] at F2
          simp only [Bool.false_eq_true, if_false, if_true] at F1 F2
          have E1 : Hid (ixLo x _ = _) := F1
          have E2 : Hid (ixHi x _ = _) := F2
          clear F1 F2 e1 e2
          go_wp2
          go_roundw
          case measure => simp [intOf]
        · exact ⟨3, by omega, rfl, by rw [E1.out]; exact step.out.k1, by rw [E2.out]; exact step.out.k2, step.out.k0, step.out.hb⟩
        · refine ⟨3, by omega, rfl, by rw [E1.out]; exact blk_store3_ne step.out.k1 (by omega), ?_, blk_store3_ne step.out.k0 (by omega), ((step.out.hb.setCell (by simp; omega) _).setCell (by simp; omega) _).setCell (by simp; omega) _⟩
          rw [E2.out, HX.out.1, HX.out.2.1, HX.out.2.2.1, HX.out.2.2.2]
          exact blk_store3 step.out.k2
        · refine ⟨3, by omega, rfl, ?_, by rw [E2.out]; exact blk_store3_ne step.out.k2 (by omega), blk_store3_ne step.out.k0 (by omega), ((step.out.hb.setCell (by simp) _).setCell (by simp) _).setCell (by simp) _⟩
          rw [E1.out, HX.out.1, HX.out.2.1, HX.out.2.2.1, HX.out.2.2.2]
          exact blk_store3 step.out.k1
        · refine ⟨3, by omega, rfl, ?_, ?_, blk_store3_ne (blk_store3_ne step.out.k0 (by omega)) (by omega), ((((((step.out.hb.setCell (by simp) _).setCell (by simp) _).setCell (by simp) _).setCell (by simp; omega) _).setCell (by simp; omega) _).setCell (by simp; omega) _)⟩
          · rw [E1.out, HX.out.1, HX.out.2.1, HX.out.2.2.1, HX.out.2.2.2]
            exact blk_store3_ne (blk_store3 step.out.k1) (by omega)
          · rw [E2.out, HX.out.1, HX.out.2.1, HX.out.2.2.1, HX.out.2.2.2]
            exact blk_store3 (blk_store3_ne step.out.k2 (by omega))
end Go.Proofs.YtonhpkigoplmaaaGreatDoor
namespace Go.Proofs.YtonhpkigoplmaaaGreatDoor
open Go.RowKit

/-- One of four. -/
def pick4 {α : Type} (a b c d : α) : Nat → α
  | 0 => a
  | 1 => b
  | 2 => c
  | _ => d

theorem four_of {w : World} {g : Nat} {q0 q1 q2 q3 : Bool × Nat × Int} {o0 o1 o2 o3 : Option Addr} {l0 l1 l2 l3 c0 c1 c2 c3 : Nat}
    (hg : w.heap[g]? = some (.cells #[.bool q0.1, .slice o0 l0 c0, .int .i64 q0.2.2, .bool q1.1, .slice o1 l1 c1, .int .i64 q1.2.2, .bool q2.1, .slice o2 l2 c2, .int .i64 q2.2.2, .bool q3.1, .slice o3 l3 c3, .int .i64 q3.2.2] 92 (0, 0)))
    (e0 : l0 = (digits q0.2.1).length) (e1 : l1 = (digits q1.2.1).length) (e2 : l2 = (digits q2.2.1).length) (e3 : l3 = (digits q3.2.1).length)
    (n0 : NatV w (.slice o0 l0 c0) q0.2.1) (n1 : NatV w (.slice o1 l1 c1) q1.2.1) (n2 : NatV w (.slice o2 l2 c2) q2.2.1) (n3 : NatV w (.slice o3 l3 c3) q3.2.1)
    (s0 : Small q0 ∧ (digits q0.2.1).length ≤ 400000) (s1 : Small q1 ∧ (digits q1.2.1).length ≤ 400000) (s2 : Small q2 ∧ (digits q2.2.1).length ≤ 400000) (s3 : Small q3 ∧ (digits q3.2.1).length ≤ 400000) :
    Four w g (pick4 q0 q1 q2 q3) (pick4 o0 o1 o2 o3) (pick4 l0 l1 l2 l3) (pick4 c0 c1 c2 c3) := by
  have hc : ∀ i, w.cell? ⟨g, i, none⟩ = (#[Value.bool q0.1, .slice o0 l0 c0, .int .i64 q0.2.2, .bool q1.1, .slice o1 l1 c1, .int .i64 q1.2.2, .bool q2.1, .slice o2 l2 c2, .int .i64 q2.2.2, .bool q3.1, .slice o3 l3 c3, .int .i64 q3.2.2] : Array Value)[i]? := fun i => cell_of_cur hg i
  have four : ∀ {P : Nat → Prop}, P 0 → P 1 → P 2 → P 3 → ∀ i, i < 4 → P i := by
    intro P p0 p1 p2 p3 i hi
    rcases (show i = 0 ∨ i = 1 ∨ i = 2 ∨ i = 3 by omega) with rfl | rfl | rfl | rfl
    · exact p0
    · exact p1
    · exact p2
    · exact p3
  exact ⟨lt_of_row hg, four (hc 0) (hc 3) (hc 6) (hc 9), four (hc 1) (hc 4) (hc 7) (hc 10), four (hc 2) (hc 5) (hc 8) (hc 11), four e0 e1 e2 e3, four n0 n1 n2 n3, four s0 s1 s2 s3⟩

set_option maxHeartbeats 1000000 in
set_option maxRecDepth 100000 in
theorem divided_zero (va vb : Value) (a1 a2 b1 b2 : Bool × Nat × Int) (w : World) (ha : IvV w va a1 a2) (hb : IvV w vb b1 b2) (hz : holdsT b1 b2 = true) :
    Calls Tryz.prog 68 #[va, vb] w fun e w' => e = .returned (.tuple #[.agg #[.int .u64 0, .int .u64 0], .int .i64 4, .string ⟨#[47]⟩]) ∧ Below w.heap.size w w' := by
  obtain ⟨ao, la, ca, bo, lb, cb, rfl, hla, hlb, hna, hnb⟩ := ha
  obtain ⟨co, lc, cc, do_, ld, cd, rfl, hlc, hld, hnc, hnd⟩ := hb
  have HH : Hid (∀ w', Below w.heap.size w w' → Calls Tryz.prog 121 #[.agg #[.bool b1.1, .slice co lc cc, .int .i64 b1.2.2, .bool b2.1, .slice do_ ld cd, .int .i64 b2.2.2]] w' fun e w'' => e = .returned (.bool true) ∧ Below w'.heap.size w' w'') := by
    intro w' hb'
    have := holds0_any _ b1 b2 w' ⟨_, _, _, _, _, _, rfl, hlc, hld, hnc.below hb' (Nat.le_refl _), hnd.below hb' (Nat.le_refl _)⟩
    rwa [hz] at this
  clear hla hlb hna hnb hlc hld hnc hnd hz
  go_enter Tryz.func68, Tryz.ntmps68
  go_wp2_with fail
  have B0 := blk_old (blk_old (blk_new w (Obj.cells #[.bool a1.1, .slice ao la ca, .int .i64 a1.2.2, .bool a2.1, .slice bo lb cb, .int .i64 a2.2.2] 98)) (Obj.cells #[.bool b1.1, .slice co lc cc, .int .i64 b1.2.2, .bool b2.1, .slice do_ ld cd, .int .i64 b2.2.2] 98)) (Obj.cells #[.int .u64 0, .int .u64 0] 28)
  have B1 := blk_old (blk_new (w.alloc (Obj.cells #[.bool a1.1, .slice ao la ca, .int .i64 a1.2.2, .bool a2.1, .slice bo lb cb, .int .i64 a2.2.2] 98)) (Obj.cells #[.bool b1.1, .slice co lc cc, .int .i64 b1.2.2, .bool b2.1, .slice do_ ld cd, .int .i64 b2.2.2] 98)) (Obj.cells #[.int .u64 0, .int .u64 0] 28)
  have B2 := blk_new ((w.alloc (Obj.cells #[.bool a1.1, .slice ao la ca, .int .i64 a1.2.2, .bool a2.1, .slice bo lb cb, .int .i64 a2.2.2] 98)).alloc (Obj.cells #[.bool b1.1, .slice co lc cc, .int .i64 b1.2.2, .bool b2.1, .slice do_ ld cd, .int .i64 b2.2.2] 98)) (Obj.cells #[.int .u64 0, .int .u64 0] 28)
  have hW : Below w.heap.size w (((w.alloc (Obj.cells #[.bool a1.1, .slice ao la ca, .int .i64 a1.2.2, .bool a2.1, .slice bo lb cb, .int .i64 a2.2.2] 98)).alloc (Obj.cells #[.bool b1.1, .slice co lc cc, .int .i64 b1.2.2, .bool b2.1, .slice do_ ld cd, .int .i64 b2.2.2] 98)).alloc (Obj.cells #[.int .u64 0, .int .u64 0] 28)) := (((Below.refl _ _).alloc (Nat.le_refl _) _).alloc (by simp) _).alloc (by simp; omega) _
  simp only [World.size_alloc] at B1 B2
  generalize (((w.alloc (Obj.cells #[.bool a1.1, .slice ao la ca, .int .i64 a1.2.2, .bool a2.1, .slice bo lb cb, .int .i64 a2.2.2] 98)).alloc (Obj.cells #[.bool b1.1, .slice co lc cc, .int .i64 b1.2.2, .bool b2.1, .slice do_ ld cd, .int .i64 b2.2.2] 98)).alloc (Obj.cells #[.int .u64 0, .int .u64 0] 28)) = W2 at *
  refine Calls.mono (HH.out _ hW) ?_
  rintro ev w1 ⟨rfl, hb1⟩
  have hW1 : Below w.heap.size w w1 := hW.trans (hb1.mono hW.size)
  have C0 := blk_below B0 hb1
  have C1 := blk_below B1 hb1
  have C2 := blk_below B2 hb1
  clear hb1 hW B0 B1 B2 HH
  obtain ⟨k0, k1, k2, k3⟩ := blk2 C2
  have HW1 : Hid (Below w.heap.size w w1) := hW1
  clear C0 C1 C2 hW1
  go_wp2_with fail
  try go_region
  try go_wp2_with fail
  refine bodyPost_ret (v := .tuple #[.agg #[.int .u64 0, .int .u64 0], .int .i64 4, .string ⟨#[47]⟩]) (by simp [results, Tryz.results68, go_sem, k0, k1]) rfl ?_
  exact ⟨rfl, by first | exact (HW1.out.setCell (by simp; omega) _).setCell (by simp; omega) _ | exact ((HW1.out.setCell (by simp; omega) _).setCell (by simp; omega) _).drew⟩
end Go.Proofs.YtonhpkigoplmaaaGreatDoor
