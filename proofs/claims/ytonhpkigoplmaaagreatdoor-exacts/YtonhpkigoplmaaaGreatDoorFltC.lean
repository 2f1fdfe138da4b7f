/-
  plain.box, plain.Make.
-/
import Derived.Test.YtonhpkigoplmaaaGreatDoorFltB
import Derived.Deep.RegionHeld3
namespace Go.Proofs.YtonhpkigoplmaaaGreatDoor
open Go.RowKit Go.Extern
attribute [local go_sem] run_store_float

theorem blk2 {W : World} {g : Nat} {a b : Value} {t : TypeId} (h : W.heap[g]? = some (.cells #[a, b] t (0, 0))) :
    W.cell? ⟨g, 0, none⟩ = some a ∧ W.cell? ⟨g, 1, none⟩ = some b ∧ W.frozen? ⟨g, 0, none⟩ = false ∧ W.frozen? ⟨g, 1, none⟩ = false :=
  ⟨by simp [World.cell?, h], by simp [World.cell?, h], by simp [World.frozen?, h], by simp [World.frozen?, h]⟩

theorem lo_any (x y : Nat) (w : World) : Calls Tryz.prog 100 #[.agg #[.float .f64 x, .float .f64 y]] w fun e w' => e = .returned (.float .f64 x) ∧ Below w.heap.size w w' := by
  go_enter Tryz.func100, Tryz.ntmps100
  go_wp2
  go_ret
  exact ⟨rfl, (Below.refl _ _).alloc (Nat.le_refl _) _⟩

theorem hi_any (x y : Nat) (w : World) : Calls Tryz.prog 101 #[.agg #[.float .f64 x, .float .f64 y]] w fun e w' => e = .returned (.float .f64 y) ∧ Below w.heap.size w w' := by
  go_enter Tryz.func101, Tryz.ntmps101
  go_wp2
  go_ret
  exact ⟨rfl, (Below.refl _ _).alloc (Nat.le_refl _) _⟩

set_option maxHeartbeats 400000 in
theorem box_any (x y : Nat) (w : World) : Calls Tryz.prog 50 #[.agg #[.float .f64 x, .float .f64 y]] w fun e w' => e = .returned (.agg #[.int .u64 (x : Int), .int .u64 (y : Int)]) ∧ Below w.heap.size w w' := by
  have h89 := @run_callFunc_extern Tryz.prog 99 _ MathFloatBits.float64bits Tryz.func99 (by kernel_rfl) (by kernel_rfl) (by kernel_rfl) (by kernel_rfl)
  have cb := c_bits
  go_enter Tryz.func50, Tryz.ntmps50
  go_wp2_with fail
  have B0 := blk_old (blk_new w (Obj.cells #[Value.float FloatKind.f64 x, Value.float FloatKind.f64 y] 67)) (Obj.cells #[Value.int IntKind.u64 0, Value.int IntKind.u64 0] 33)
  have B1 := blk_new (w.alloc (Obj.cells #[Value.float FloatKind.f64 x, Value.float FloatKind.f64 y] 67)) (Obj.cells #[Value.int IntKind.u64 0, Value.int IntKind.u64 0] 33)
  have hW : Below w.heap.size w ((w.alloc (Obj.cells #[Value.float FloatKind.f64 x, Value.float FloatKind.f64 y] 67)).alloc (Obj.cells #[Value.int IntKind.u64 0, Value.int IntKind.u64 0] 33)) :=
    ((Below.refl _ _).alloc (Nat.le_refl _) _).alloc (by simp) _
  simp only [World.size_alloc] at B1
  generalize ((w.alloc (Obj.cells #[Value.float FloatKind.f64 x, Value.float FloatKind.f64 y] 67)).alloc (Obj.cells #[Value.int IntKind.u64 0, Value.int IntKind.u64 0] 33)) = W2 at *
  obtain ⟨k00, k01, -, -⟩ := blk2 B0
  obtain ⟨k10, k11, k12, k13⟩ := blk2 B1
  have HB0 : Hid (W2.heap[w.heap.size]? = _) := B0
  have HB1 : Hid (W2.heap[w.heap.size + 1]? = _) := B1
  have HW : Hid (Below w.heap.size w W2) := hW
  clear B0 B1 hW
  go_region_held3 (fun W => W.cell? ⟨w.heap.size, 0, none⟩ = some (.float .f64 x) ∧ W.cell? ⟨w.heap.size, 1, none⟩ = some (.float .f64 y)) (first | (go_keep; done) | (refine ⟨?_, ?_⟩ <;> first | (go_keep; done) | (rw [cell_set_ne (by omega), cell_set_ne (by omega)]; assumption)))
    (first
      | (go_at_call 100; refine (lo_any x y _).mono ?_; rintro e w3 ⟨rfl, hb3⟩; have HB3 : Hid (Below _ _ w3) := hb3; obtain ⟨k00, k01, -, -⟩ := blk2 (blk_below (show (W2.drew).heap[w.heap.size]? = _ from HB0.out) hb3); obtain ⟨k10, k11, k12, k13⟩ := blk2 (blk_below (show (W2.drew).heap[w.heap.size + 1]? = _ from HB1.out) hb3); clear hb3)
      | (go_at_call 101; refine (hi_any x y _).mono ?_; rintro e w4 ⟨rfl, hb4⟩; have HB4 : Hid (Below _ _ w4) := hb4; obtain ⟨k00, k01, -, -⟩ := blk2 (blk_below (blk_below (show (W2.drew).heap[w.heap.size]? = _ from HB0.out) HB3.out) hb4); obtain ⟨k10, k11, k12, k13⟩ := blk2 (blk_below (blk_below (show (W2.drew).heap[w.heap.size + 1]? = _ from HB1.out) HB3.out) hb4); clear hb4))
  have hbz : Below w.heap.size w w4 := by
    have h0 := HW.out.size
    have h3 := HB3.out
    have h4 := HB4.out
    have h5 : Below w.heap.size w W2.drew := HW.out.drew
    exact (h5.trans (h3.mono (by show _ ≤ W2.heap.size; omega))).trans (h4.mono (by have := h3.size; have e : W2.drew.heap.size = W2.heap.size := rfl; omega))
  clear HB3 HB4 HW HB0 HB1
  go_wp2
  refine bodyPost_ret (v := .agg #[.int .u64 (x : Int), .int .u64 (y : Int)]) (by simp [results, Tryz.results50, go_sem, k10, k11]) rfl ⟨rfl, ?_⟩
  exact (hbz.setCell (by simp) _).setCell (by simp) _

theorem blk_store2 {W : World} {g : Nat} {a b a' b' : Value} {t : TypeId} (h : W.heap[g]? = some (.cells #[a', b'] t (0, 0))) :
    ((W.setCell ⟨g, 0, none⟩ a).setCell ⟨g, 1, none⟩ b).heap[g]? = some (.cells #[a, b] t (0, 0)) := by
  have := heap_setCell_same _ g 1 _ t b (heap_setCell_same W g 0 _ t a h)
  simpa using this

theorem code_errV (A : Nat → Addr) (k : Nat) (w : World) (hk : k ≤ 9) (hS : Sents A w) :
    Calls Tryz.prog 49 #[errV A k] w fun e w' => e = .returned (.tuple #[.int .i64 (k : Int), .string ⟨#[]⟩]) ∧ Below w.heap.size w w' := by
  unfold errV
  by_cases h : k = 0
  · subst h
    rw [if_pos rfl]
    refine (code_nil w).mono ?_
    rintro e w' ⟨rfl, rfl⟩
    exact ⟨rfl, Below.refl _ _⟩
  · rw [if_neg h]
    refine (code_sent A w (k - 1) (by omega) hS).mono ?_
    rintro e w' ⟨rfl, hb⟩
    exact ⟨by rw [show k - 1 + 1 = k by omega], hb⟩

set_option maxHeartbeats 400000 in
theorem plainMake_any (A : Nat → Addr) (lo hi : Nat) (w : World) (h1 : lo < 18446744073709551616) (h2 : hi < 18446744073709551616) (hS : Sents A w) :
    Calls Tryz.prog 25 #[.agg #[.int .u64 (lo : Int), .int .u64 (hi : Int)]] w fun e w' => e = .returned (.tuple #[.agg #[.int .u64 ((makeN lo hi).1 : Int), .int .u64 ((makeN lo hi).2.1 : Int)], .int .i64 ((makeN lo hi).2.2 : Int)]) ∧ Below w.heap.size w w' := by
  have H1 : Hid (lo < 18446744073709551616) := h1
  have H2 : Hid (hi < 18446744073709551616) := h2
  clear h1 h2
  go_enter Tryz.func25, Tryz.ntmps25
  go_wp2_with fail
  have B0 := blk_old (blk_new w (Obj.cells #[Value.int IntKind.u64 lo, Value.int IntKind.u64 hi] 33)) (Obj.cells #[Value.int IntKind.u64 0, Value.int IntKind.u64 0] 33)
  have B1 := blk_new (w.alloc (Obj.cells #[Value.int IntKind.u64 lo, Value.int IntKind.u64 hi] 33)) (Obj.cells #[Value.int IntKind.u64 0, Value.int IntKind.u64 0] 33)
  have hW : Below w.heap.size w ((w.alloc (Obj.cells #[Value.int IntKind.u64 lo, Value.int IntKind.u64 hi] 33)).alloc (Obj.cells #[Value.int IntKind.u64 0, Value.int IntKind.u64 0] 33)) :=
    ((Below.refl _ _).alloc (Nat.le_refl _) _).alloc (by simp) _
  simp only [World.size_alloc] at B1
  generalize ((w.alloc (Obj.cells #[Value.int IntKind.u64 lo, Value.int IntKind.u64 hi] 33)).alloc (Obj.cells #[Value.int IntKind.u64 0, Value.int IntKind.u64 0] 33)) = W2 at *
  obtain ⟨k00, k01, -, -⟩ := blk2 B0
  have HB0 : Hid (W2.heap[w.heap.size]? = _) := B0
  have HB1 : Hid (W2.heap[w.heap.size + 1]? = _) := B1
  have HW : Hid (Below w.heap.size w W2) := hW
  have HS2 : Hid (Sents A W2) := hS.below hW (Nat.le_refl _)
  have hz : w.heap.size + 1 < W2.heap.size := (Array.getElem?_eq_some_iff.1 B1).1
  clear B0 B1 hW hS
  generalize hmk : makeN lo hi = r at *
  have HMK : Hid (makeN lo hi = r) := hmk
  clear hmk
  obtain ⟨rl, rh, rk⟩ := r
  have hrk : Hid (rk ≤ 2) := by
    show rk ≤ 2
    have := HMK.out
    unfold makeN at this
    split at this
    · simp at this; omega
    · split at this <;> simp at this <;> omega
  go_region_held3 (fun W => W.cell? ⟨w.heap.size, 0, none⟩ = some (.int .u64 (lo : Int)) ∧ W.cell? ⟨w.heap.size, 1, none⟩ = some (.int .u64 (hi : Int))) (first | (go_keep; done) | (refine ⟨?_, ?_⟩ <;> first | (go_keep; done) | (rw [cell_set_ne (by omega), cell_set_ne (by omega)]; assumption)))
    (first
      | (go_at_call_of 56 (Value.int IntKind.u64 (lo : Int)); refine (float_any lo _).mono ?_; rintro e w3 ⟨rfl, rfl⟩)
      | (go_at_call_of 56 (Value.int IntKind.u64 (hi : Int)); refine (float_any hi _).mono ?_; rintro e w3 ⟨rfl, rfl⟩)
      | (go_at_call 55; refine (make_any A lo hi _ H1.out H2.out ?_).mono ?_; exact HS2.out.below ((Below.refl _ _).drew) (Nat.le_refl _); rintro e w4 ⟨rfl, hb4⟩; rw [HMK.out]; dsimp only; have HB5 : Hid (Below W2.heap.size W2 w4) := (Below.refl _ W2).drew.trans (hb4.mono (Nat.le_refl _)); obtain ⟨k00, k01, -, -⟩ := blk2 (blk_below HB0.out HB5.out); clear hb4)
      | (go_at_call 55; refine (make_any A lo hi _ H1.out H2.out ?_).mono ?_; exact HS2.out.below (((Below.refl _ _).alloc (Nat.le_refl _) _).drew) (Nat.le_refl _); rintro e w4 ⟨rfl, hb4⟩; rw [HMK.out]; dsimp only; have HB5 : Hid (Below W2.heap.size W2 w4) := (((Below.refl _ W2).alloc (Nat.le_refl _) _).drew).trans (hb4.mono (by simp)); obtain ⟨k00, k01, -, -⟩ := blk2 (blk_below HB0.out HB5.out); have HQ : Hid (w4.heap[W2.heap.size]? = some (Obj.cells #[Value.float FloatKind.f64 0, Value.float FloatKind.f64 0] 67 (0, 0))) := blk_below (show (World.drew (W2.alloc _)).heap[W2.heap.size]? = _ from blk_new W2 _) hb4; obtain ⟨kq0, kq1, kq2, kq3⟩ := blk2 HQ.out; clear hb4))
  all_goals
    first
    | (have hbw := (HB5.out.setCell (p := ⟨W2.heap.size, 0, none⟩) (Nat.le_refl _) (.float .f64 rl)).setCell (p := ⟨W2.heap.size, 1, none⟩) (Nat.le_refl _) (.float .f64 rh)
       have B5 := blk_store2 (a := .float .f64 rl) (b := .float .f64 rh) HQ.out
       clear HQ kq0 kq1 kq2 kq3 k00 k01
       generalize (w4.setCell { block := W2.heap.size, off := 0 } (Value.float FloatKind.f64 rl)).setCell { block := W2.heap.size, off := 1 } (Value.float FloatKind.f64 rh) = W5 at *)
    | (have hbw := HB5.out.alloc HB5.out.size (Obj.cells #[Value.float FloatKind.f64 rl, Value.float FloatKind.f64 rh] 67)
       have B5 := blk_new w4 (Obj.cells #[Value.float FloatKind.f64 rl, Value.float FloatKind.f64 rh] 67)
       clear k00 k01
       generalize (w4.alloc (Obj.cells #[Value.float FloatKind.f64 rl, Value.float FloatKind.f64 rh] 67)) = W5 at *)
  all_goals
    have hS5 := HS2.out.below hbw (Nat.le_refl _)
    have B6 := blk_below HB1.out hbw
    have hb6 : Below w.heap.size w W5 := HW.out.trans (hbw.mono HW.out.size)
    have HB6 : Hid (W5.heap[w.heap.size + 1]? = _) := B6
    have HB7 : Hid (W5.heap[_]? = _) := B5
    have Hb6 : Hid (Below w.heap.size w W5) := hb6
    have HS5 : Hid (Sents A W5) := hS5
    clear hbw B5 B6 hb6 hS5 HB0 HB1 HW HS2 HB5
    go_wp2_with fail
    refine (code_errV A rk _ (by have := hrk.out; omega) HS5.out).mono ?_
    rintro e w6 ⟨rfl, hb7⟩
    obtain ⟨kg0, kg1, -, -⟩ := blk2 (blk_below HB7.out hb7)
    have B8 := blk_below HB6.out hb7
    have hb8 : Below w.heap.size w w6 := Hb6.out.trans (hb7.mono Hb6.out.size)
    have HB8 : Hid (w6.heap[w.heap.size + 1]? = _) := B8
    have Hb8 : Hid (Below w.heap.size w w6) := hb8
    clear hb7 HB7 HB6 Hb6 HS5 B8 hb8
    go_wp2_with fail
    refine (box_any rl rh _).mono ?_
    rintro e w7 ⟨rfl, hb9⟩
    obtain ⟨k10, k11, k12, k13⟩ := blk2 (blk_below HB8.out hb9)
    have hb10 : Below w.heap.size w w7 := Hb8.out.trans (hb9.mono Hb8.out.size)
    clear hb9 HB8 Hb8 kg0 kg1
    go_wp2
    refine bodyPost_ret (v := .tuple #[.agg #[.int .u64 (rl : Int), .int .u64 (rh : Int)], .int .i64 (rk : Int)]) (by simp [results, Tryz.results25, go_sem, k10, k11]) rfl ?_
    rw [HMK.out]
    exact ⟨rfl, (hb10.setCell (by simp) _).setCell (by simp) _⟩
end Go.Proofs.YtonhpkigoplmaaaGreatDoor
