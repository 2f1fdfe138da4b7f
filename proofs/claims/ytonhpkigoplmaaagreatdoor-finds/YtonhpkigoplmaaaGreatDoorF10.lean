/-
  SqrtF, MeetF, MulG, Made, OpF, MulF, CorQ.
-/
import Derived.Test.YtonhpkigoplmaaaGreatDoorF09
import Derived.Deep.DeepCutAuto
namespace Go.Proofs.YtonhpkigoplmaaaGreatDoor
open Go.RowKit Go.Extern Ieee
attribute [local go_sem] run_store_float

theorem heap_new2 (w : World) (x y : Nat) (s : ByteArray) (a : Addr) : (((w.alloc (Obj.cells #[.float .f64 x, .float .f64 y] 67)).alloc (Obj.cells #[.float .f64 0, .float .f64 0] 67)).alloc (Obj.cells #[.string s, .iface 229 (.pointer (some a))] 138)).drew.heap[w.heap.size + 1 + 1]? = some (.cells #[.string s, .iface 229 (.pointer (some a))] 138 (0, 0)) := by
  have := blk_new ((w.alloc (Obj.cells #[.float .f64 x, .float .f64 y] 67)).alloc (Obj.cells #[.float .f64 0, .float .f64 0] 67)) (Obj.cells #[.string s, .iface 229 (.pointer (some a))] 138)
  simp only [World.size_alloc] at this
  exact this

/-- The root of what is below 0. -/
theorem sqrtF_neg (A : Nat → Addr) (al ah : Nat) (w : World) (hS : Sents A w) (h : FloatKind.f64.format.order al 0 = some .lt) :
    Calls Tryz.prog 48 #[.agg #[.float .f64 al, .float .f64 ah]] w fun ev w' => OpR A w 0 0 5 ⟨#[115, 113, 114, 116]⟩ ev w' := by
  have c2 : w.cell? ⟨2, 0, none⟩ = some (.iface 229 (.pointer (some (A 4)))) := hS.cell 4 (by omega)
  have hl2 := lt_of_cell c2
  clear hS
  go_enter Tryz.func48, Tryz.ntmps48
  go_wp2_with fail
  go_region
  go_wp2_with fail
  refine bodyPost_ret (v := .tuple #[.agg #[.float .f64 0, .float .f64 0], .iface 136 (.pointer (some ⟨w.heap.size + 1 + 1, 0, none⟩))]) (by simp [results, Tryz.results48, go_sem]) rfl ?_
  exact ⟨_, rfl, .op 4 (by omega) _ _ (heap_new2 w al ah _ (A 4)), ((((Below.refl _ _).alloc (Nat.le_refl _) _).alloc (by simp) _).alloc (by simp; omega) _).drew⟩

set_option maxRecDepth 100000 in
set_option maxHeartbeats 4000000 in
theorem sqrtF_any2 (A : Nat → Addr) (al ah d1 u1 d2 u2 : Nat) (o : Ordering) (p q : Int) (w : World) (hS : Sents A w) (ho : FloatKind.f64.format.order al 0 = some o) (hno : o ≠ .lt) (h1 : Gives 95 #[.float .f64 al] d1 u1) (h2 : Gives 95 #[.float .f64 ah] d2 u2) (hp : FR d1 p) (hq : FR u2 q) :
    Calls Tryz.prog 48 #[.agg #[.float .f64 al, .float .f64 ah]] w fun ev w' => OpR A w (boxP p q).1 (boxP p q).2.1 (boxP p q).2.2 (opS ⟨#[115, 113, 114, 116]⟩ (boxP p q).2.2) ev w' := by
  have H1 : Hid (∀ w, Calls Tryz.prog 95 #[.float .f64 al] w fun ev w' => ev = .returned (.agg #[.float .f64 d1, .float .f64 u1]) ∧ Below w.heap.size w w') := h1
  have H2 : Hid (∀ w, Calls Tryz.prog 95 #[.float .f64 ah] w fun ev w' => ev = .returned (.agg #[.float .f64 d2, .float .f64 u2]) ∧ Below w.heap.size w w') := h2
  have HS : Hid (Sents A w) := hS
  have HI : Hid (∀ w, Sents A w → Calls Tryz.prog 88 #[.string ⟨#[115, 113, 114, 116]⟩, .float .f64 d1, .float .f64 u2] w fun ev w' => OpR A w (boxP p q).1 (boxP p q).2.1 (boxP p q).2.2 (opS ⟨#[115, 113, 114, 116]⟩ (boxP p q).2.2) ev w') := fun w hS => within_any A _ _ _ p q w hS hp hq
  generalize opS ⟨#[115, 113, 114, 116]⟩ (boxP p q).2.2 = sr at *
  generalize boxP p q = r at *
  obtain ⟨r1, r2, r3⟩ := r
  simp only at HI ⊢
  have hlt : (FloatKind.f64.format.order al 0 == some Ordering.lt) = false := by rw [ho]; cases o <;> first | rfl | exact absurd rfl hno
  have f0 := c_fld0
  have f1 := c_fld1
  clear h1 h2 hS hp hq ho hno
  go_enter Tryz.func48, Tryz.ntmps48
  go_wp2_with fail
  have B0 := blk_old (blk_new w (Obj.cells #[.float .f64 al, .float .f64 ah] 67)) (Obj.cells #[.float .f64 0, .float .f64 0] 67)
  have B2 := blk_new (w.alloc (Obj.cells #[.float .f64 al, .float .f64 ah] 67)) (Obj.cells #[.float .f64 0, .float .f64 0] 67)
  have hW : Below w.heap.size w ((w.alloc (Obj.cells #[.float .f64 al, .float .f64 ah] 67)).alloc (Obj.cells #[.float .f64 0, .float .f64 0] 67)) := ((Below.refl _ _).alloc (Nat.le_refl _) _).alloc (by simp) _
  simp only [World.size_alloc] at B2
  generalize ((w.alloc (Obj.cells #[.float .f64 al, .float .f64 ah] 67)).alloc (Obj.cells #[.float .f64 0, .float .f64 0] 67)) = W2 at *
  have HB0 : Hid (W2.drew.heap[w.heap.size]? = _) := B0
  have HB2 : Hid (W2.drew.heap[w.heap.size + 1]? = _) := B2
  have HW : Hid (Below w.heap.size w W2.drew) := hW.drew
  obtain ⟨a0, a1, -, -⟩ := blk2 B0
  clear B0 B2 hW
  go_region_held3 (fun W => W.cell? ⟨w.heap.size, 0, none⟩ = some (.float .f64 al) ∧ W.cell? ⟨w.heap.size, 1, none⟩ = some (.float .f64 ah)) (first | (go_keep; done) | (refine ⟨?_, ?_⟩ <;> first | (go_keep; done) | (rw [cell_set_ne (by omega), cell_set_ne (by omega)]; assumption) | assumption))
    (first
      | (go_at_call 95; with_reducible (refine Calls.mono (H1.out _) ?_); rintro e w3 ⟨rfl, hb3⟩
         have HB3 : Hid (Below _ _ w3) := hb3
         obtain ⟨a0, a1, -, -⟩ := blk2 (blk_below HB0.out hb3)
         clear hb3)
      | (go_at_call 95; with_reducible (refine Calls.mono (H2.out _) ?_); rintro e w4 ⟨rfl, hb4⟩
         have HB4 : Hid (Below _ _ w4) := hb4
         obtain ⟨a0, a1, -, -⟩ := blk2 (blk_below (blk_below HB0.out HB3.out) hb4)
         clear hb4)
      | (go_at_call 88
         have HX : Hid (Below w.heap.size w w4) := (HW.out.trans (HB3.out.mono HW.out.size)).trans (HB4.out.mono (Nat.le_trans HW.out.size HB3.out.size))
         refine Calls.mono (HI.out _ (HS.out.below HX.out (Nat.le_refl _))) ?_
         rintro e w5 ⟨v, rfl, hE, hb5⟩
         have HE : Hid (ErrIs A w5 v _ _) := hE
         have HB5 : Hid (Below _ _ w5) := hb5
         obtain ⟨a0, a1, -, -⟩ := blk2 (blk_below (blk_below (blk_below HB0.out HB3.out) HB4.out) hb5)
         obtain ⟨k0, k1, k2, k3⟩ := blk2 (blk_below (blk_below (blk_below HB2.out HB3.out) HB4.out) hb5)
         clear hE hb5))
  go_wp2_with fail
  have hBX : BoxT w5 (w.heap.size + 1) 67 := BoxT.of (blk_below (blk_below (blk_below HB2.out HB3.out) HB4.out) HB5.out)
  refine bodyPost_ret (v := .tuple #[.agg #[.float .f64 r1, .float .f64 r2], v]) (by simp [results, Tryz.results48, go_sem, k0, k1]) rfl ?_
  exact ⟨v, rfl, (HE.out.set hBX (by decide)).set hBX.set (by decide), ((HX.out.trans (HB5.out.mono HX.out.size)).setCell (by simp) _).setCell (by simp) _⟩

theorem hullF_any (al ah bl bh : Nat) (p1 p2 p3 p4 : Int) (w : World) (h1 : FR al p1) (h2 : FR ah p2) (h3 : FR bl p3) (h4 : FR bh p4) :
    Calls Tryz.prog 42 #[.agg #[.float .f64 al, .float .f64 ah], .agg #[.float .f64 bl, .float .f64 bh]] w fun ev w' => ev = .returned (.agg #[.float .f64 (fmin al bl), .float .f64 (fmax ah bh)]) ∧ Below w.heap.size w w' := by
  have m1 : ∀ (w : World) (ts : Array TypeId) (t : TypeId), (Builtin.min_ ts t #[.float .f64 al, .float .f64 bl]).run Tryz.prog w = .ok (.float .f64 (fmin al bl)) w := fun w ts t => run_min_float w ts t h1 h3
  have m2 : ∀ (w : World) (ts : Array TypeId) (t : TypeId), (Builtin.max_ ts t #[.float .f64 ah, .float .f64 bh]).run Tryz.prog w = .ok (.float .f64 (fmax ah bh)) w := fun w ts t => run_max_float w ts t h2 h4
  generalize fmin al bl = lo at *
  generalize fmax ah bh = hi at *
  clear h1 h2 h3 h4
  go_enter Tryz.func42, Tryz.ntmps42
  go_wp2
  refine bodyPost_ret (v := .agg #[.float .f64 lo, .float .f64 hi]) (by simp [results, Tryz.results42, go_sem]) rfl ?_
  exact ⟨rfl, (((Below.refl _ _).alloc (Nat.le_refl _) _).alloc (by simp) _).alloc (by simp; omega) _⟩
end Go.Proofs.YtonhpkigoplmaaaGreatDoor
namespace Go.Proofs.YtonhpkigoplmaaaGreatDoor
open Go.RowKit Go.Extern Ieee
attribute [local go_sem] run_store_float

theorem meetF_none (A : Nat → Addr) (al ah bl bh : Nat) (p1 p2 p3 p4 : Int) (w : World) (hS : Sents A w) (h1 : FR al p1) (h2 : FR ah p2) (h3 : FR bl p3) (h4 : FR bh p4) (ho : FloatKind.f64.format.order (fmax al bl) (fmin ah bh) = some .gt) :
    Calls Tryz.prog 43 #[.agg #[.float .f64 al, .float .f64 ah], .agg #[.float .f64 bl, .float .f64 bh]] w fun ev w' => OpR A w 0 0 6 ⟨#[]⟩ ev w' := by
  have m1 : ∀ (w : World) (ts : Array TypeId) (t : TypeId), (Builtin.max_ ts t #[.float .f64 al, .float .f64 bl]).run Tryz.prog w = .ok (.float .f64 (fmax al bl)) w := fun w ts t => run_max_float w ts t h1 h3
  have m2 : ∀ (w : World) (ts : Array TypeId) (t : TypeId), (Builtin.min_ ts t #[.float .f64 ah, .float .f64 bh]).run Tryz.prog w = .ok (.float .f64 (fmin ah bh)) w := fun w ts t => run_min_float w ts t h2 h4
  have c2 : w.cell? ⟨0, 0, none⟩ = some (.iface 229 (.pointer (some (A 5)))) := hS.cell 5 (by omega)
  have hl2 := lt_of_cell c2
  generalize fmax al bl = lo at *
  generalize fmin ah bh = hi at *
  clear h1 h2 h3 h4 hS
  go_enter Tryz.func43, Tryz.ntmps43
  go_wp2_with fail
  go_region
  go_wp2_with fail
  go_region
  go_wp2_with fail
  refine bodyPost_ret (v := .tuple #[.agg #[.float .f64 0, .float .f64 0], .iface 229 (.pointer (some (A 5)))]) (by simp [results, Tryz.results43, go_sem]) rfl ?_
  exact ⟨_, rfl, .one 5 (by omega), ((((Below.refl _ _).alloc (Nat.le_refl _) _).alloc (by simp) _).alloc (by simp; omega) _).drew.drew⟩

theorem meetF_some (A : Nat → Addr) (al ah bl bh : Nat) (p1 p2 p3 p4 : Int) (o : Ordering) (w : World) (h1 : FR al p1) (h2 : FR ah p2) (h3 : FR bl p3) (h4 : FR bh p4) (ho : FloatKind.f64.format.order (fmax al bl) (fmin ah bh) = some o) (hno : o ≠ .gt) :
    Calls Tryz.prog 43 #[.agg #[.float .f64 al, .float .f64 ah], .agg #[.float .f64 bl, .float .f64 bh]] w fun ev w' => OpR A w (fmax al bl) (fmin ah bh) 0 ⟨#[]⟩ ev w' := by
  have m1 : ∀ (w : World) (ts : Array TypeId) (t : TypeId), (Builtin.max_ ts t #[.float .f64 al, .float .f64 bl]).run Tryz.prog w = .ok (.float .f64 (fmax al bl)) w := fun w ts t => run_max_float w ts t h1 h3
  have m2 : ∀ (w : World) (ts : Array TypeId) (t : TypeId), (Builtin.min_ ts t #[.float .f64 ah, .float .f64 bh]).run Tryz.prog w = .ok (.float .f64 (fmin ah bh)) w := fun w ts t => run_min_float w ts t h2 h4
  have hgt : (FloatKind.f64.format.order (fmax al bl) (fmin ah bh) == some Ordering.gt) = false := by rw [ho]; cases o <;> first | rfl | exact absurd rfl hno
  generalize fmax al bl = lo at *
  generalize fmin ah bh = hi at *
  clear h1 h2 h3 h4 ho hno
  go_enter Tryz.func43, Tryz.ntmps43
  go_wp2_with fail
  go_region
  go_wp2_with fail
  refine bodyPost_ret (v := .tuple #[.agg #[.float .f64 lo, .float .f64 hi], .nilIface]) (by simp [results, Tryz.results43, go_sem]) rfl ?_
  exact ⟨_, rfl, .nil, ((((Below.refl _ _).alloc (Nat.le_refl _) _).alloc (by simp) _).alloc (by simp; omega) _).drew⟩

/-- Does an interval hold 0, by how its ends stand to 0? -/
theorem holds_any (al ah : Nat) (o1 o2 : Ordering) (w : World) (h1 : FloatKind.f64.format.order al 0 = some o1) (h2 : FloatKind.f64.format.order ah 0 = some o2) :
    Calls Tryz.prog 93 #[.agg #[.float .f64 al, .float .f64 ah]] w fun ev w' => ev = .returned (.bool (o1 != .gt && o2 != .lt)) ∧ Below w.heap.size w w' := by
  cases o1 <;> cases o2 <;>
  (go_enter Tryz.func93, Tryz.ntmps93
   go_wp2
   go_ret
   exact ⟨rfl, (Below.refl _ _).alloc (Nat.le_refl _) _⟩)

set_option maxRecDepth 100000 in
set_option maxHeartbeats 4000000 in
theorem negF_any (al ah : Nat) (w : World) (hl : negW al < 18446744073709551616) (hh : negW ah < 18446744073709551616) (pl : (plainN (negW al)).isSome = true) (ph : (plainN (negW ah)).isSome = true) :
    Calls Tryz.prog 41 #[.agg #[.float .f64 al, .float .f64 ah]] w fun ev w' => ev = .returned (.agg #[.float .f64 (posW (negW ah)), .float .f64 (posW (negW al))]) ∧ Below w.heap.size w w' := by
  have H1 : Hid (∀ w, Calls Tryz.prog 87 #[.float .f64 (negW ah)] w fun e w' => e = .returned (.float .f64 (posW (negW ah))) ∧ w' = w) := fun w => oneZero_any _ w hh ph
  have H2 : Hid (∀ w, Calls Tryz.prog 87 #[.float .f64 (negW al)] w fun e w' => e = .returned (.float .f64 (posW (negW al))) ∧ w' = w) := fun w => oneZero_any _ w hl pl
  have n0 : ∀ w, (Op.unary .neg (.float .f64 al)).run Tryz.prog w = .ok (.float .f64 (negW al)) w := fun w => run_neg_float w _
  have n1 : ∀ w, (Op.unary .neg (.float .f64 ah)).run Tryz.prog w = .ok (.float .f64 (negW ah)) w := fun w => run_neg_float w _
  clear hl hh pl ph
  generalize posW (negW al) = rl at *
  generalize posW (negW ah) = rh at *
  generalize negW al = nl at *
  generalize negW ah = nh at *
  go_enter Tryz.func41, Tryz.ntmps41
  go_wp2_with fail
  have B0 := blk_old (blk_new w (Obj.cells #[.float .f64 al, .float .f64 ah] 67)) (Obj.cells #[.float .f64 0, .float .f64 0] 67)
  have B2 := blk_new (w.alloc (Obj.cells #[.float .f64 al, .float .f64 ah] 67)) (Obj.cells #[.float .f64 0, .float .f64 0] 67)
  have hW : Below w.heap.size w ((w.alloc (Obj.cells #[.float .f64 al, .float .f64 ah] 67)).alloc (Obj.cells #[.float .f64 0, .float .f64 0] 67)) := ((Below.refl _ _).alloc (Nat.le_refl _) _).alloc (by simp) _
  simp only [World.size_alloc] at B2
  generalize ((w.alloc (Obj.cells #[.float .f64 al, .float .f64 ah] 67)).alloc (Obj.cells #[.float .f64 0, .float .f64 0] 67)) = W2 at *
  have HW : Hid (Below w.heap.size w W2.drew) := hW.drew
  obtain ⟨a0, a1, -, -⟩ := blk2 B0
  obtain ⟨k0, k1, k2, k3⟩ := blk2 B2
  clear B0 B2 hW
  go_region_held3 (fun W => W.cell? ⟨w.heap.size, 0, none⟩ = some (.float .f64 al) ∧ W.cell? ⟨w.heap.size, 1, none⟩ = some (.float .f64 ah)) (first | (go_keep; done) | (refine ⟨?_, ?_⟩ <;> first | (go_keep; done) | (rw [cell_set_ne (by omega), cell_set_ne (by omega)]; assumption) | assumption))
    (first
      | (go_at_call 87; with_reducible (refine Calls.mono (H1.out _) ?_); rintro e w3 ⟨rfl, rfl⟩)
      | (go_at_call 87; with_reducible (refine Calls.mono (H2.out _) ?_); rintro e w3 ⟨rfl, rfl⟩))
  go_wp2_with fail
  refine bodyPost_ret (v := .agg #[.float .f64 rh, .float .f64 rl]) (by simp [results, Tryz.results41, go_sem, k0, k1]) rfl ?_
  exact ⟨rfl, (HW.out.setCell (by simp) _).setCell (by simp) _⟩
end Go.Proofs.YtonhpkigoplmaaaGreatDoor
namespace Go.Proofs.YtonhpkigoplmaaaGreatDoor
open Go.RowKit Go.Extern Ieee
attribute [local go_sem] run_store_float

set_option maxRecDepth 100000 in
theorem mulF_any (A : Nat → Addr) (al ah bl bh lo hi : Nat) (p q : Int) (w : World) (hS : Sents A w) (hC : ∀ w, Calls Tryz.prog 91 #[.func (.func 92) #[] #[], .agg #[.float .f64 al, .float .f64 ah], .agg #[.float .f64 bl, .float .f64 bh]] w fun ev w' => ev = .returned (.tuple #[.float .f64 lo, .float .f64 hi]) ∧ Below w.heap.size w w') (hp : FR lo p) (hq : FR hi q) :
    Calls Tryz.prog 46 #[.agg #[.float .f64 al, .float .f64 ah], .agg #[.float .f64 bl, .float .f64 bh]] w fun ev w' => OpR A w (boxP p q).1 (boxP p q).2.1 (boxP p q).2.2 (opS ⟨#[42]⟩ (boxP p q).2.2) ev w' := by
  have HC : Hid (∀ w, Calls Tryz.prog 91 #[.func (.func 92) #[] #[], .agg #[.float .f64 al, .float .f64 ah], .agg #[.float .f64 bl, .float .f64 bh]] w fun ev w' => ev = .returned (.tuple #[.float .f64 lo, .float .f64 hi]) ∧ Below w.heap.size w w') := hC
  have HS : Hid (Sents A w) := hS
  have HI : Hid (∀ w, Sents A w → Calls Tryz.prog 88 #[.string ⟨#[42]⟩, .float .f64 lo, .float .f64 hi] w fun ev w' => OpR A w (boxP p q).1 (boxP p q).2.1 (boxP p q).2.2 (opS ⟨#[42]⟩ (boxP p q).2.2) ev w') := fun w hS => within_any A _ _ _ p q w hS hp hq
  generalize opS ⟨#[42]⟩ (boxP p q).2.2 = sr at *
  generalize boxP p q = r at *
  obtain ⟨r1, r2, r3⟩ := r
  simp only at HI ⊢
  clear hC hS hp hq
  go_enter Tryz.func46, Tryz.ntmps46
  go_wp2_with fail
  have B2 := blk_new ((w.alloc (Obj.cells #[.float .f64 al, .float .f64 ah] 67)).alloc (Obj.cells #[.float .f64 bl, .float .f64 bh] 67)) (Obj.cells #[.float .f64 0, .float .f64 0] 67)
  have hW : Below w.heap.size w (((w.alloc (Obj.cells #[.float .f64 al, .float .f64 ah] 67)).alloc (Obj.cells #[.float .f64 bl, .float .f64 bh] 67)).alloc (Obj.cells #[.float .f64 0, .float .f64 0] 67)) := (((Below.refl _ _).alloc (Nat.le_refl _) _).alloc (by simp) _).alloc (by simp; omega) _
  simp only [World.size_alloc] at B2
  generalize (((w.alloc (Obj.cells #[.float .f64 al, .float .f64 ah] 67)).alloc (Obj.cells #[.float .f64 bl, .float .f64 bh] 67)).alloc (Obj.cells #[.float .f64 0, .float .f64 0] 67)) = W2 at *
  refine Calls.mono (HC.out _) ?_
  rintro e w8 ⟨rfl, hb8⟩
  have hW8 : Below w.heap.size w w8 := hW.trans (hb8.mono hW.size)
  have B28 : w8.heap[w.heap.size + 1 + 1]? = _ := blk_below B2 hb8
  clear hW B2 hb8 HC
  go_wp2_with fail
  refine Calls.mono (HI.out _ (HS.out.below hW8 (Nat.le_refl _))) ?_
  rintro e w9 ⟨v, rfl, hE, hb9⟩
  have HE : Hid (ErrIs A w9 v _ _) := hE
  have HB9 : Hid (Below w.heap.size w w9) := hW8.trans (hb9.mono hW8.size)
  have HK9 : Hid (w9.heap[w.heap.size + 1 + 1]? = _) := blk_below B28 hb9
  obtain ⟨k0, k1, k2, k3⟩ := blk2 HK9.out
  clear hE hb9 hW8 B28 HI HS
  go_wp2_with fail
  have hBX : BoxT w9 (w.heap.size + 1 + 1) 67 := BoxT.of HK9.out
  refine bodyPost_ret (v := .tuple #[.agg #[.float .f64 r1, .float .f64 r2], v]) (by simp [results, Tryz.results46, go_sem, k0, k1]) rfl ?_
  exact ⟨v, rfl, (HE.out.set hBX (by decide)).set hBX.set (by decide), (HB9.out.setCell (by simp; omega) _).setCell (by simp; omega) _⟩

theorem ErrIs.drew {A : Nat → Addr} {w : World} {v : Value} {k : Nat} {s : ByteArray} (h : ErrIs A w v k s) : ErrIs A w.drew v k s := by
  rcases h with ⟨rfl, rfl, rfl⟩ | ⟨k, h, rfl, rfl, rfl⟩ | ⟨k, h, b, hr, rfl, rfl⟩
  · exact .nil
  · exact .one k h
  · exact .op k h b s hr

set_option maxRecDepth 100000 in
/-- A division by what holds 0. -/
theorem divF_zero (A : Nat → Addr) (al ah bl bh : Nat) (o1 o2 : Ordering) (w : World) (hS : Sents A w) (h1 : FloatKind.f64.format.order bl 0 = some o1) (h2 : FloatKind.f64.format.order bh 0 = some o2) (hz : (o1 != .gt && o2 != .lt) = true) :
    Calls Tryz.prog 47 #[.agg #[.float .f64 al, .float .f64 ah], .agg #[.float .f64 bl, .float .f64 bh]] w fun ev w' => OpR A w 0 0 4 ⟨#[47]⟩ ev w' := by
  have HH : Hid (∀ w, Calls Tryz.prog 93 #[.agg #[.float .f64 bl, .float .f64 bh]] w fun ev w' => ev = .returned (.bool true) ∧ Below w.heap.size w w') := by
    intro w
    have := holds_any bl bh o1 o2 w h1 h2
    rwa [hz] at this
  have HS : Hid (Sents A w) := hS
  clear h1 h2 hz hS
  go_enter Tryz.func47, Tryz.ntmps47
  go_wp2_with fail
  have B2 := blk_new ((w.alloc (Obj.cells #[.float .f64 al, .float .f64 ah] 67)).alloc (Obj.cells #[.float .f64 bl, .float .f64 bh] 67)) (Obj.cells #[.float .f64 0, .float .f64 0] 67)
  have hW : Below w.heap.size w (((w.alloc (Obj.cells #[.float .f64 al, .float .f64 ah] 67)).alloc (Obj.cells #[.float .f64 bl, .float .f64 bh] 67)).alloc (Obj.cells #[.float .f64 0, .float .f64 0] 67)) := (((Below.refl _ _).alloc (Nat.le_refl _) _).alloc (by simp) _).alloc (by simp; omega) _
  simp only [World.size_alloc] at B2
  generalize (((w.alloc (Obj.cells #[.float .f64 al, .float .f64 ah] 67)).alloc (Obj.cells #[.float .f64 bl, .float .f64 bh] 67)).alloc (Obj.cells #[.float .f64 0, .float .f64 0] 67)) = W2 at *
  refine Calls.mono (HH.out _) ?_
  rintro e w9 ⟨rfl, hb9⟩
  have HB9 : Hid (Below w.heap.size w w9) := hW.trans (hb9.mono hW.size)
  have HK9 : Hid (w9.heap[w.heap.size + 1 + 1]? = _) := blk_below B2 hb9
  obtain ⟨k0, k1, k2, k3⟩ := blk2 HK9.out
  have c2 : w9.cell? ⟨1, 0, none⟩ = some (.iface 229 (.pointer (some (A 3)))) := (HS.out.below HB9.out (Nat.le_refl _)).cell 3 (by omega)
  have hl2 := lt_of_cell c2
  have HK10 : Hid ((w9.alloc (Obj.cells #[.string ⟨#[47]⟩, .iface 229 (.pointer (some (A 3)))] 138)).heap[w.heap.size + 1 + 1]? = _) := blk_old HK9.out _
  obtain ⟨l0, l1, l2, l3⟩ := blk2 HK10.out
  have HN : Hid ((w9.alloc (Obj.cells #[.string ⟨#[47]⟩, .iface 229 (.pointer (some (A 3)))] 138)).heap[w9.heap.size]? = _) := blk_new w9 _
  have HA : Hid ((((w9.setCell ⟨w.heap.size + 1 + 1, 0, none⟩ (.float .f64 0)).setCell ⟨w.heap.size + 1 + 1, 1, none⟩ (.float .f64 0)).alloc (Obj.cells #[.string ⟨#[47]⟩, .iface 229 (.pointer (some (A 3)))] 138)).heap[w.heap.size + 1 + 1]? = _) := blk_old (blk_store2 HK9.out) _
  have HB : Hid ((((w9.alloc (Obj.cells #[.string ⟨#[47]⟩, .iface 229 (.pointer (some (A 3)))] 138)).setCell ⟨w.heap.size + 1 + 1, 0, none⟩ (.float .f64 0)).setCell ⟨w.heap.size + 1 + 1, 1, none⟩ (.float .f64 0)).heap[w.heap.size + 1 + 1]? = _) := blk_store2 HK10.out
  have HAN : Hid ((((w9.setCell ⟨w.heap.size + 1 + 1, 0, none⟩ (.float .f64 0)).setCell ⟨w.heap.size + 1 + 1, 1, none⟩ (.float .f64 0)).alloc (Obj.cells #[.string ⟨#[47]⟩, .iface 229 (.pointer (some (A 3)))] 138)).heap[w9.heap.size]? = some (.cells #[.string ⟨#[47]⟩, .iface 229 (.pointer (some (A 3)))] 138 (0, 0))) := by
    have := blk_new ((w9.setCell ⟨w.heap.size + 1 + 1, 0, none⟩ (.float .f64 0)).setCell ⟨w.heap.size + 1 + 1, 1, none⟩ (.float .f64 0)) (Obj.cells #[.string ⟨#[47]⟩, .iface 229 (.pointer (some (A 3)))] 138)
    simp only [World.size_setCell] at this
    exact this
  have HEA : Hid (ErrIs A (((w9.setCell ⟨w.heap.size + 1 + 1, 0, none⟩ (.float .f64 0)).setCell ⟨w.heap.size + 1 + 1, 1, none⟩ (.float .f64 0)).alloc (Obj.cells #[.string ⟨#[47]⟩, .iface 229 (.pointer (some (A 3)))] 138)).drew (.iface 136 (.pointer (some ⟨w9.heap.size, 0, none⟩))) 4 ⟨#[47]⟩) := ErrIs.op 3 (by omega) _ _ HAN.out
  have HEB0 : Hid (ErrIs A (w9.alloc (Obj.cells #[.string ⟨#[47]⟩, .iface 229 (.pointer (some (A 3)))] 138)) (.iface 136 (.pointer (some ⟨w9.heap.size, 0, none⟩))) 4 ⟨#[47]⟩) := ErrIs.op 3 (by omega) _ _ HN.out
  have hBX : BoxT (w9.alloc (Obj.cells #[.string ⟨#[47]⟩, .iface 229 (.pointer (some (A 3)))] 138)) (w.heap.size + 1 + 1) 67 := BoxT.of HK10.out
  have HEB1 : Hid (ErrIs A (((w9.alloc (Obj.cells #[.string ⟨#[47]⟩, .iface 229 (.pointer (some (A 3)))] 138)).setCell ⟨w.heap.size + 1 + 1, 0, none⟩ (.float .f64 0)).setCell ⟨w.heap.size + 1 + 1, 1, none⟩ (.float .f64 0)) (.iface 136 (.pointer (some ⟨w9.heap.size, 0, none⟩))) 4 ⟨#[47]⟩) := (HEB0.out.set hBX (by decide)).set hBX.set (by decide)
  have HEB : Hid (ErrIs A (((w9.alloc (Obj.cells #[.string ⟨#[47]⟩, .iface 229 (.pointer (some (A 3)))] 138)).setCell ⟨w.heap.size + 1 + 1, 0, none⟩ (.float .f64 0)).setCell ⟨w.heap.size + 1 + 1, 1, none⟩ (.float .f64 0)).drew (.iface 136 (.pointer (some ⟨w9.heap.size, 0, none⟩))) 4 ⟨#[47]⟩) := HEB1.out.drew
  have HBA : Hid (Below w.heap.size w (((w9.setCell ⟨w.heap.size + 1 + 1, 0, none⟩ (.float .f64 0)).setCell ⟨w.heap.size + 1 + 1, 1, none⟩ (.float .f64 0)).alloc (Obj.cells #[.string ⟨#[47]⟩, .iface 229 (.pointer (some (A 3)))] 138)).drew) := (((HB9.out.setCell (by simp; omega) _).setCell (by simp; omega) _).alloc (by have := HB9.out.size; simp; omega) _).drew
  have HBB : Hid (Below w.heap.size w (((w9.alloc (Obj.cells #[.string ⟨#[47]⟩, .iface 229 (.pointer (some (A 3)))] 138)).setCell ⟨w.heap.size + 1 + 1, 0, none⟩ (.float .f64 0)).setCell ⟨w.heap.size + 1 + 1, 1, none⟩ (.float .f64 0)).drew) := (((HB9.out.alloc HB9.out.size _).setCell (by simp; omega) _).setCell (by simp; omega) _).drew
  obtain ⟨p0, p1, -, -⟩ := blk2 HA.out
  obtain ⟨q0, q1, -, -⟩ := blk2 HB.out
  clear hb9 hW B2 HH HS hBX
  go_wp2_with fail
  go_region
  all_goals go_wp2_with fail
  all_goals refine bodyPost_ret (v := .tuple #[.agg #[.float .f64 0, .float .f64 0], .iface 136 (.pointer (some ⟨w9.heap.size, 0, none⟩))]) (by simp [results, Tryz.results47, go_sem, p0, p1, q0, q1]) rfl ?_
  all_goals first
    | exact ⟨_, rfl, HEA.out, HBA.out⟩
    | exact ⟨_, rfl, HEB.out, HBB.out⟩

set_option maxRecDepth 100000 in
theorem divF_any (A : Nat → Addr) (al ah bl bh lo hi : Nat) (p q : Int) (o1 o2 : Ordering) (w : World) (hS : Sents A w) (h1 : FloatKind.f64.format.order bl 0 = some o1) (h2 : FloatKind.f64.format.order bh 0 = some o2) (hz : (o1 != .gt && o2 != .lt) = false) (hC : ∀ w, Calls Tryz.prog 91 #[.func (.func 94) #[] #[], .agg #[.float .f64 al, .float .f64 ah], .agg #[.float .f64 bl, .float .f64 bh]] w fun ev w' => ev = .returned (.tuple #[.float .f64 lo, .float .f64 hi]) ∧ Below w.heap.size w w') (hp : FR lo p) (hq : FR hi q) :
    Calls Tryz.prog 47 #[.agg #[.float .f64 al, .float .f64 ah], .agg #[.float .f64 bl, .float .f64 bh]] w fun ev w' => OpR A w (boxP p q).1 (boxP p q).2.1 (boxP p q).2.2 (opS ⟨#[47]⟩ (boxP p q).2.2) ev w' := by
  have HH : Hid (∀ w, Calls Tryz.prog 93 #[.agg #[.float .f64 bl, .float .f64 bh]] w fun ev w' => ev = .returned (.bool false) ∧ Below w.heap.size w w') := by
    intro w
    have := holds_any bl bh o1 o2 w h1 h2
    rwa [hz] at this
  have HC : Hid (∀ w, Calls Tryz.prog 91 #[.func (.func 94) #[] #[], .agg #[.float .f64 al, .float .f64 ah], .agg #[.float .f64 bl, .float .f64 bh]] w fun ev w' => ev = .returned (.tuple #[.float .f64 lo, .float .f64 hi]) ∧ Below w.heap.size w w') := hC
  have HS : Hid (Sents A w) := hS
  have HI : Hid (∀ w, Sents A w → Calls Tryz.prog 88 #[.string ⟨#[47]⟩, .float .f64 lo, .float .f64 hi] w fun ev w' => OpR A w (boxP p q).1 (boxP p q).2.1 (boxP p q).2.2 (opS ⟨#[47]⟩ (boxP p q).2.2) ev w') := fun w hS => within_any A _ _ _ p q w hS hp hq
  generalize opS ⟨#[47]⟩ (boxP p q).2.2 = sr at *
  generalize boxP p q = r at *
  obtain ⟨r1, r2, r3⟩ := r
  simp only at HI ⊢
  clear h1 h2 hz hS hC hp hq
  go_enter Tryz.func47, Tryz.ntmps47
  go_wp2_with fail
  have B0 := blk_old (blk_old (blk_new w (Obj.cells #[.float .f64 al, .float .f64 ah] 67)) (Obj.cells #[.float .f64 bl, .float .f64 bh] 67)) (Obj.cells #[.float .f64 0, .float .f64 0] 67)
  have B1 := blk_old (blk_new (w.alloc (Obj.cells #[.float .f64 al, .float .f64 ah] 67)) (Obj.cells #[.float .f64 bl, .float .f64 bh] 67)) (Obj.cells #[.float .f64 0, .float .f64 0] 67)
  have B2 := blk_new ((w.alloc (Obj.cells #[.float .f64 al, .float .f64 ah] 67)).alloc (Obj.cells #[.float .f64 bl, .float .f64 bh] 67)) (Obj.cells #[.float .f64 0, .float .f64 0] 67)
  have hW : Below w.heap.size w (((w.alloc (Obj.cells #[.float .f64 al, .float .f64 ah] 67)).alloc (Obj.cells #[.float .f64 bl, .float .f64 bh] 67)).alloc (Obj.cells #[.float .f64 0, .float .f64 0] 67)) := (((Below.refl _ _).alloc (Nat.le_refl _) _).alloc (by simp) _).alloc (by simp; omega) _
  simp only [World.size_alloc] at B1 B2
  generalize (((w.alloc (Obj.cells #[.float .f64 al, .float .f64 ah] 67)).alloc (Obj.cells #[.float .f64 bl, .float .f64 bh] 67)).alloc (Obj.cells #[.float .f64 0, .float .f64 0] 67)) = W2 at *
  refine Calls.mono (HH.out _) ?_
  rintro e w7 ⟨rfl, hb7⟩
  have hW7 : Below w.heap.size w w7 := hW.trans (hb7.mono hW.size)
  have B27 : w7.heap[w.heap.size + 1 + 1]? = _ := blk_below B2 hb7
  obtain ⟨a0, a1, -, -⟩ := blk2 (blk_below B0 hb7)
  obtain ⟨b0, b1, -, -⟩ := blk2 (blk_below B1 hb7)
  clear HH hW B2 B0 B1 hb7
  go_wp2_with fail
  refine Calls.mono (HC.out _) ?_
  rintro e w8 ⟨rfl, hb8⟩
  have hW8 : Below w.heap.size w w8 := hW7.trans (hb8.mono hW7.size)
  have B28 : w8.heap[w.heap.size + 1 + 1]? = _ := blk_below B27 hb8
  clear hW7 B27 hb8 HC a0 a1 b0 b1
  go_wp2_with fail
  refine Calls.mono (HI.out _ (HS.out.below hW8 (Nat.le_refl _))) ?_
  rintro e w9 ⟨v, rfl, hE, hb9⟩
  have HE : Hid (ErrIs A w9 v _ _) := hE
  have HB9 : Hid (Below w.heap.size w w9) := hW8.trans (hb9.mono hW8.size)
  have HK9 : Hid (w9.heap[w.heap.size + 1 + 1]? = _) := blk_below B28 hb9
  obtain ⟨k0, k1, k2, k3⟩ := blk2 HK9.out
  clear hE hb9 hW8 B28 HI HS
  go_wp2_with fail
  have hBX : BoxT w9 (w.heap.size + 1 + 1) 67 := BoxT.of HK9.out
  refine bodyPost_ret (v := .tuple #[.agg #[.float .f64 r1, .float .f64 r2], v]) (by simp [results, Tryz.results47, go_sem, k0, k1]) rfl ?_
  exact ⟨v, rfl, (HE.out.set hBX (by decide)).set hBX.set (by decide), (HB9.out.setCell (by simp; omega) _).setCell (by simp; omega) _⟩

end Go.Proofs.YtonhpkigoplmaaaGreatDoor
namespace Go.Proofs.YtonhpkigoplmaaaGreatDoor
open Go.RowKit Go.Extern Ieee
attribute [local go_sem] run_store_float

set_option maxHeartbeats 4000000 in
set_option maxRecDepth 100000 in
theorem made_any (A : Nat → Addr) (lo hi : Nat) (w : World) (h1 : lo < 18446744073709551616) (h2 : hi < 18446744073709551616) (hS : Sents A w) :
    Calls Tryz.prog 40 #[.agg #[.int .u64 (lo : Int), .int .u64 (hi : Int)]] w fun e w' => e = .returned (.agg #[.float .f64 (makeN lo hi).1, .float .f64 (makeN lo hi).2.1]) ∧ Below w.heap.size w w' := by
  have H1 : Hid (lo < 18446744073709551616) := h1
  have H2 : Hid (hi < 18446744073709551616) := h2
  clear h1 h2
  go_enter Tryz.func40, Tryz.ntmps40
  go_wp2_with fail
  have B0 := blk_old (blk_new w (Obj.cells #[Value.int IntKind.u64 lo, Value.int IntKind.u64 hi] 33)) (Obj.cells #[Value.float FloatKind.f64 0, Value.float FloatKind.f64 0] 67)
  have B1 := blk_new (w.alloc (Obj.cells #[Value.int IntKind.u64 lo, Value.int IntKind.u64 hi] 33)) (Obj.cells #[Value.float FloatKind.f64 0, Value.float FloatKind.f64 0] 67)
  have hW : Below w.heap.size w ((w.alloc (Obj.cells #[Value.int IntKind.u64 lo, Value.int IntKind.u64 hi] 33)).alloc (Obj.cells #[Value.float FloatKind.f64 0, Value.float FloatKind.f64 0] 67)) :=
    ((Below.refl _ _).alloc (Nat.le_refl _) _).alloc (by simp) _
  simp only [World.size_alloc] at B1
  generalize ((w.alloc (Obj.cells #[Value.int IntKind.u64 lo, Value.int IntKind.u64 hi] 33)).alloc (Obj.cells #[Value.float FloatKind.f64 0, Value.float FloatKind.f64 0] 67)) = W2 at *
  obtain ⟨k00, k01, -, -⟩ := blk2 B0
  have HB0 : Hid (W2.heap[w.heap.size]? = _) := B0
  have HB1 : Hid (W2.heap[w.heap.size + 1]? = _) := B1
  have HW : Hid (Below w.heap.size w W2) := hW
  have HS2 : Hid (Sents A W2) := hS.below hW (Nat.le_refl _)
  have hz : w.heap.size + 1 < W2.heap.size := (Array.getElem?_eq_some_iff.1 B1).1
  clear B0 B1 hW hS
  generalize hmk : makeN lo hi = r at *
  have HMK : Hid (makeN lo hi = r) := hmk
  clear hmk
  obtain ⟨rl, rh, rk⟩ := r
  have hrk : Hid (rk ≤ 2) := by
    show rk ≤ 2
    have := HMK.out
    unfold makeN at this
    split at this
    · simp at this; omega
    · split at this <;> simp at this <;> omega
  go_region_held3 (fun W => W.cell? ⟨w.heap.size, 0, none⟩ = some (.int .u64 (lo : Int)) ∧ W.cell? ⟨w.heap.size, 1, none⟩ = some (.int .u64 (hi : Int))) (first | (go_keep; done) | (refine ⟨?_, ?_⟩ <;> first | (go_keep; done) | (rw [cell_set_ne (by omega), cell_set_ne (by omega)]; assumption)))
    (first
      | (go_at_call_of 56 (Value.int IntKind.u64 (lo : Int)); refine (float_any lo _).mono ?_; rintro e w3 ⟨rfl, rfl⟩)
      | (go_at_call_of 56 (Value.int IntKind.u64 (hi : Int)); refine (float_any hi _).mono ?_; rintro e w3 ⟨rfl, rfl⟩)
      | (go_at_call 55; refine (make_any A lo hi _ H1.out H2.out ?_).mono ?_; exact HS2.out.below ((Below.refl _ _).drew) (Nat.le_refl _); rintro e w4 ⟨rfl, hb4⟩; rw [HMK.out]; dsimp only; have HB5 : Hid (Below W2.heap.size W2 w4) := (Below.refl _ W2).drew.trans (hb4.mono (Nat.le_refl _)); obtain ⟨k00, k01, -, -⟩ := blk2 (blk_below HB0.out HB5.out); clear hb4)
      | (go_at_call 55; refine (make_any A lo hi _ H1.out H2.out ?_).mono ?_; exact HS2.out.below (((Below.refl _ _).alloc (Nat.le_refl _) _).drew) (Nat.le_refl _); rintro e w4 ⟨rfl, hb4⟩; rw [HMK.out]; dsimp only; have HB5 : Hid (Below W2.heap.size W2 w4) := (((Below.refl _ W2).alloc (Nat.le_refl _) _).drew).trans (hb4.mono (by simp)); obtain ⟨k00, k01, -, -⟩ := blk2 (blk_below HB0.out HB5.out); have HQ : Hid (w4.heap[W2.heap.size]? = some (Obj.cells #[Value.float FloatKind.f64 0, Value.float FloatKind.f64 0] 67 (0, 0))) := blk_below (show (World.drew (W2.alloc _)).heap[W2.heap.size]? = _ from blk_new W2 _) hb4; obtain ⟨kq0, kq1, kq2, kq3⟩ := blk2 HQ.out; clear hb4))
  all_goals
    first
    | (have hbw := (HB5.out.setCell (p := ⟨W2.heap.size, 0, none⟩) (Nat.le_refl _) (.float .f64 rl)).setCell (p := ⟨W2.heap.size, 1, none⟩) (Nat.le_refl _) (.float .f64 rh)
       have B5 := blk_store2 (a := .float .f64 rl) (b := .float .f64 rh) HQ.out
       clear HQ kq0 kq1 kq2 kq3 k00 k01
       generalize (w4.setCell { block := W2.heap.size, off := 0 } (Value.float FloatKind.f64 rl)).setCell { block := W2.heap.size, off := 1 } (Value.float FloatKind.f64 rh) = W5 at *)
    | (have hbw := HB5.out.alloc HB5.out.size (Obj.cells #[Value.float FloatKind.f64 rl, Value.float FloatKind.f64 rh] 67)
       have B5 := blk_new w4 (Obj.cells #[Value.float FloatKind.f64 rl, Value.float FloatKind.f64 rh] 67)
       clear k00 k01
       generalize (w4.alloc (Obj.cells #[Value.float FloatKind.f64 rl, Value.float FloatKind.f64 rh] 67)) = W5 at *)
  all_goals
    have hS5 := HS2.out.below hbw (Nat.le_refl _)
    have B6 := blk_below HB1.out hbw
    have hb6 : Below w.heap.size w W5 := HW.out.trans (hbw.mono HW.out.size)
    have HB6 : Hid (W5.heap[w.heap.size + 1]? = _) := B6
    have HB7 : Hid (W5.heap[_]? = _) := B5
    have Hb6 : Hid (Below w.heap.size w W5) := hb6
    have HS5 : Hid (Sents A W5) := hS5
    clear hbw B5 B6 hb6 hS5 HB0 HB1 HW HS2 HB5
    obtain ⟨kg0, kg1, -, -⟩ := blk2 HB7.out
    obtain ⟨k0, k1, k2, k3⟩ := blk2 HB6.out
    go_wp2_with fail
    refine bodyPost_ret (v := .agg #[.float .f64 rl, .float .f64 rh]) (by simp [results, Tryz.results40, go_sem, k0, k1]) rfl ?_
    refine ⟨by rw [HMK.out], ?_⟩
    exact (Hb6.out.setCell (by simp) _).setCell (by simp) _
end Go.Proofs.YtonhpkigoplmaaaGreatDoor
namespace Go.Proofs.YtonhpkigoplmaaaGreatDoor
open Go.RowKit Go.Extern Ieee
attribute [local go_sem] run_store_float

/-- What the method that belongs to k answers. -/
def OpCase (A : Nat → Addr) (k : Int) (al ah bl bh : Nat) (r1 r2 r3 : Nat) (rs : ByteArray) : Prop :=
  (k = 0 ∧ r3 = 0 ∧ rs = ⟨#[]⟩ ∧ ∀ w, Calls Tryz.prog 41 #[.agg #[.float .f64 al, .float .f64 ah]] w fun ev w' => ev = .returned (.agg #[.float .f64 r1, .float .f64 r2]) ∧ Below w.heap.size w w') ∨
  (k = 1 ∧ r3 = 0 ∧ rs = ⟨#[]⟩ ∧ ∀ w, Calls Tryz.prog 42 #[.agg #[.float .f64 al, .float .f64 ah], .agg #[.float .f64 bl, .float .f64 bh]] w fun ev w' => ev = .returned (.agg #[.float .f64 r1, .float .f64 r2]) ∧ Below w.heap.size w w') ∨
  (k = 2 ∧ ∀ w, Sents A w → Calls Tryz.prog 43 #[.agg #[.float .f64 al, .float .f64 ah], .agg #[.float .f64 bl, .float .f64 bh]] w fun ev w' => OpR A w r1 r2 r3 rs ev w') ∨
  (k = 3 ∧ ∀ w, Sents A w → Calls Tryz.prog 44 #[.agg #[.float .f64 al, .float .f64 ah], .agg #[.float .f64 bl, .float .f64 bh]] w fun ev w' => OpR A w r1 r2 r3 rs ev w') ∨
  (k = 4 ∧ ∀ w, Sents A w → Calls Tryz.prog 45 #[.agg #[.float .f64 al, .float .f64 ah], .agg #[.float .f64 bl, .float .f64 bh]] w fun ev w' => OpR A w r1 r2 r3 rs ev w') ∨
  (k = 5 ∧ ∀ w, Sents A w → Calls Tryz.prog 46 #[.agg #[.float .f64 al, .float .f64 ah], .agg #[.float .f64 bl, .float .f64 bh]] w fun ev w' => OpR A w r1 r2 r3 rs ev w') ∨
  (k = 6 ∧ ∀ w, Sents A w → Calls Tryz.prog 47 #[.agg #[.float .f64 al, .float .f64 ah], .agg #[.float .f64 bl, .float .f64 bh]] w fun ev w' => OpR A w r1 r2 r3 rs ev w') ∨
  (k = 7 ∧ ∀ w, Sents A w → Calls Tryz.prog 48 #[.agg #[.float .f64 al, .float .f64 ah]] w fun ev w' => OpR A w r1 r2 r3 rs ev w') ∨
  (k ≠ 0 ∧ k ≠ 1 ∧ k ≠ 2 ∧ k ≠ 3 ∧ k ≠ 4 ∧ k ≠ 5 ∧ k ≠ 6 ∧ k ≠ 7 ∧ r1 = al ∧ r2 = ah ∧ r3 = 0 ∧ rs = ⟨#[]⟩)

end Go.Proofs.YtonhpkigoplmaaaGreatDoor
namespace Go.Proofs.YtonhpkigoplmaaaGreatDoor
open Go.RowKit Go.Extern Ieee
attribute [local go_sem] run_store_float

/-- The lower, the greater one of two floats, as the built-in functions give it. -/
def MinF (x y z : Nat) : Prop := ∀ (w : World) (ts : Array TypeId) (t : TypeId), (Builtin.min_ ts t #[.float .f64 x, .float .f64 y]).run Tryz.prog w = .ok (.float .f64 z) w
def MaxF (x y z : Nat) : Prop := ∀ (w : World) (ts : Array TypeId) (t : TypeId), (Builtin.max_ ts t #[.float .f64 x, .float .f64 y]).run Tryz.prog w = .ok (.float .f64 z) w

theorem c_ix0 (a b c d e f : Nat) (w : World) : (Instr.index 180 (.agg #[.float .f64 a, .float .f64 b, .float .f64 c, .float .f64 d, .float .f64 e, .float .f64 f]) (.int .i64 0)).run Tryz.prog w = .ok (.agg #[.float .f64 a, .float .f64 b]) w := by kernel_rfl
theorem c_ix1 (a b c d e f : Nat) (w : World) : (Instr.index 180 (.agg #[.float .f64 a, .float .f64 b, .float .f64 c, .float .f64 d, .float .f64 e, .float .f64 f]) (.int .i64 1)).run Tryz.prog w = .ok (.agg #[.float .f64 c, .float .f64 d]) w := by kernel_rfl
theorem c_ix2 (a b c d e f : Nat) (w : World) : (Instr.index 180 (.agg #[.float .f64 a, .float .f64 b, .float .f64 c, .float .f64 d, .float .f64 e, .float .f64 f]) (.int .i64 2)).run Tryz.prog w = .ok (.agg #[.float .f64 e, .float .f64 f]) w := by kernel_rfl

set_option maxRecDepth 100000 in
set_option maxHeartbeats 4000000 in
theorem corners_mul (al ah bl bh d1 u1 d2 u2 d3 u3 d4 u4 l2 l3 lo g2 g3 hi : Nat) (w : World)
    (m1 : MinF d1 d2 l2) (m2 : MinF l2 d3 l3) (m3 : MinF l3 d4 lo) (x1 : MaxF u1 u2 g2) (x2 : MaxF g2 u3 g3) (x3 : MaxF g3 u4 hi)
    (h1 : Gives 92 #[.float .f64 al, .float .f64 bl] d1 u1) (h2 : Gives 92 #[.float .f64 al, .float .f64 bh] d2 u2) (h3 : Gives 92 #[.float .f64 ah, .float .f64 bl] d3 u3) (h4 : Gives 92 #[.float .f64 ah, .float .f64 bh] d4 u4) :
    Calls Tryz.prog 91 #[.func (.func 92) #[] #[], .agg #[.float .f64 al, .float .f64 ah], .agg #[.float .f64 bl, .float .f64 bh]] w fun ev w' => ev = .returned (.tuple #[.float .f64 lo, .float .f64 hi]) ∧ Below w.heap.size w w' := by
  have H1 : Hid (∀ w, Calls Tryz.prog 92 #[.float .f64 al, .float .f64 bl] w fun ev w' => ev = .returned (.agg #[.float .f64 d1, .float .f64 u1]) ∧ Below w.heap.size w w') := h1
  have H2 : Hid (∀ w, Calls Tryz.prog 92 #[.float .f64 al, .float .f64 bh] w fun ev w' => ev = .returned (.agg #[.float .f64 d2, .float .f64 u2]) ∧ Below w.heap.size w w') := h2
  have H3 : Hid (∀ w, Calls Tryz.prog 92 #[.float .f64 ah, .float .f64 bl] w fun ev w' => ev = .returned (.agg #[.float .f64 d3, .float .f64 u3]) ∧ Below w.heap.size w w') := h3
  have H4 : Hid (∀ w, Calls Tryz.prog 92 #[.float .f64 ah, .float .f64 bh] w fun ev w' => ev = .returned (.agg #[.float .f64 d4, .float .f64 u4]) ∧ Below w.heap.size w w') := h4
  have f0 := c_fld0
  have f1 := c_fld1
  clear h1 h2 h3 h4
  go_enter Tryz.func91, Tryz.ntmps91
  go_wp2_with fail
  have B0 := blk_old (blk_new w (Obj.cells #[.float .f64 al, .float .f64 ah] 67)) (Obj.cells #[.float .f64 bl, .float .f64 bh] 67)
  have B1 := blk_new (w.alloc (Obj.cells #[.float .f64 al, .float .f64 ah] 67)) (Obj.cells #[.float .f64 bl, .float .f64 bh] 67)
  have hW : Below w.heap.size w ((w.alloc (Obj.cells #[.float .f64 al, .float .f64 ah] 67)).alloc (Obj.cells #[.float .f64 bl, .float .f64 bh] 67)) := ((Below.refl _ _).alloc (Nat.le_refl _) _).alloc (by simp) _
  simp only [World.size_alloc] at B1
  generalize ((w.alloc (Obj.cells #[.float .f64 al, .float .f64 ah] 67)).alloc (Obj.cells #[.float .f64 bl, .float .f64 bh] 67)) = W2 at *
  refine Calls.mono (H1.out _) ?_
  rintro e w3 ⟨rfl, hb3⟩
  have C0 := blk_old (blk_below B0 hb3) (Obj.cells #[.float .f64 d1, .float .f64 u1] 130)
  have C1 := blk_old (blk_below B1 hb3) (Obj.cells #[.float .f64 d1, .float .f64 u1] 130)
  have hX : Below w.heap.size w ((w3.alloc (Obj.cells #[.float .f64 d1, .float .f64 u1] 130)).drew) := ((hW.trans (hb3.mono hW.size)).alloc (Nat.le_trans hW.size hb3.size) _).drew
  clear B0 B1 hb3 hW H1
  go_wp2_with fail
  go_region
  have HC0 : Hid ((w3.alloc (Obj.cells #[.float .f64 d1, .float .f64 u1] 130)).drew.heap[w.heap.size]? = _) := C0
  have HC1 : Hid ((w3.alloc (Obj.cells #[.float .f64 d1, .float .f64 u1] 130)).drew.heap[w.heap.size + 1]? = _) := C1
  have HX : Hid (Below w.heap.size w (w3.alloc (Obj.cells #[.float .f64 d1, .float .f64 u1] 130)).drew) := hX
  clear C0 C1 hX
  generalize (w3.alloc (Obj.cells #[.float .f64 d1, .float .f64 u1] 130)).drew = W4 at *
  obtain ⟨a0, a1, -, -⟩ := blk2 HC0.out
  obtain ⟨b0, b1, -, -⟩ := blk2 HC1.out
  go_wp2_with fail
  have HD0 : Hid (W4.drew.heap[w.heap.size]? = _) := HC0.out
  have HD1 : Hid (W4.drew.heap[w.heap.size + 1]? = _) := HC1.out
  have HY : Hid (Below w.heap.size w W4.drew) := HX.out.drew
  clear HC0 HC1 HX
  go_region_held3 (fun W => W.cell? ⟨w.heap.size, 0, none⟩ = some (.float .f64 al) ∧ W.cell? ⟨w.heap.size, 1, none⟩ = some (.float .f64 ah) ∧ W.cell? ⟨w.heap.size + 1, 0, none⟩ = some (.float .f64 bl) ∧ W.cell? ⟨w.heap.size + 1, 1, none⟩ = some (.float .f64 bh)) (first | (go_keep; done) | (refine ⟨?_, ?_, ?_, ?_⟩ <;> first | (go_keep; done) | assumption))
    (first
      | (go_at_call 92; with_reducible (refine Calls.mono (H2.out _) ?_); rintro e w5 ⟨rfl, hb5⟩
         have HB5 : Hid (Below _ _ w5) := hb5
         obtain ⟨a0, a1, -, -⟩ := blk2 (blk_below HD0.out hb5)
         obtain ⟨b0, b1, -, -⟩ := blk2 (blk_below HD1.out hb5)
         clear hb5)
      | (go_at_call 92; with_reducible (refine Calls.mono (H3.out _) ?_); rintro e w6 ⟨rfl, hb6⟩
         have HB6 : Hid (Below _ _ w6) := hb6
         obtain ⟨a0, a1, -, -⟩ := blk2 (blk_below (blk_below HD0.out HB5.out) hb6)
         obtain ⟨b0, b1, -, -⟩ := blk2 (blk_below (blk_below HD1.out HB5.out) hb6)
         clear hb6)
      | (go_at_call 92; with_reducible (refine Calls.mono (H4.out _) ?_); rintro e w7 ⟨rfl, hb7⟩
         have HB7 : Hid (Below _ _ w7) := hb7
         obtain ⟨a0, a1, -, -⟩ := blk2 (blk_below (blk_below (blk_below HD0.out HB5.out) HB6.out) hb7)
         obtain ⟨b0, b1, -, -⟩ := blk2 (blk_below (blk_below (blk_below HD1.out HB5.out) HB6.out) hb7)
         clear hb7))
  have HZ : Hid (Below w.heap.size w w7) := ((HY.out.trans (HB5.out.mono HY.out.size)).trans (HB6.out.mono (Nat.le_trans HY.out.size HB5.out.size))).trans (HB7.out.mono (Nat.le_trans (Nat.le_trans HY.out.size HB5.out.size) HB6.out.size))
  clear HB5 HB6 HB7 HY HD0 HD1 H2 H3 H4 a0 a1 b0 b1
  have i0 := c_ix0 d2 u2 d3 u3 d4 u4
  have i1 := c_ix1 d2 u2 d3 u3 d4 u4
  have i2 := c_ix2 d2 u2 d3 u3 d4 u4
  unfold MinF at m1 m2 m3
  unfold MaxF at x1 x2 x3
  go_wp2_with fail
  refine wp_loop_rounds 4 ?_
  rw [rounds_succ]
  go_wp2_with fail
  go_region
  go_wp2_with fail
  rw [rounds_succ]
  go_wp2_with fail
  go_region
  go_wp2_with fail
  rw [rounds_succ]
  go_wp2_with fail
  go_region
  go_wp2_with fail
  rw [rounds_succ]
  go_wp2_with fail
  have hZ8 : Below w.heap.size w (((w7.alloc (Obj.cells #[.float .f64 d2, .float .f64 u2] 130)).alloc (Obj.cells #[.float .f64 d3, .float .f64 u3] 130)).alloc (Obj.cells #[.float .f64 d4, .float .f64 u4] 130)).drew.drew.drew := (((HZ.out.alloc HZ.out.size _).alloc (by have := HZ.out.size; simp; omega) _).alloc (by have := HZ.out.size; simp; omega) _).drew.drew.drew
  refine bodyPost_ret (v := .tuple #[.float .f64 lo, .float .f64 hi]) (by simp [results, Tryz.results91, go_sem]) rfl ?_
  exact ⟨rfl, hZ8⟩
end Go.Proofs.YtonhpkigoplmaaaGreatDoor
namespace Go.Proofs.YtonhpkigoplmaaaGreatDoor
open Go.RowKit Go.Extern Ieee
attribute [local go_sem] run_store_float

set_option maxRecDepth 100000 in
set_option maxHeartbeats 4000000 in
theorem corners_quo (al ah bl bh d1 u1 d2 u2 d3 u3 d4 u4 l2 l3 lo g2 g3 hi : Nat) (w : World)
    (m1 : MinF d1 d2 l2) (m2 : MinF l2 d3 l3) (m3 : MinF l3 d4 lo) (x1 : MaxF u1 u2 g2) (x2 : MaxF g2 u3 g3) (x3 : MaxF g3 u4 hi)
    (h1 : Gives 94 #[.float .f64 al, .float .f64 bl] d1 u1) (h2 : Gives 94 #[.float .f64 al, .float .f64 bh] d2 u2) (h3 : Gives 94 #[.float .f64 ah, .float .f64 bl] d3 u3) (h4 : Gives 94 #[.float .f64 ah, .float .f64 bh] d4 u4) :
    Calls Tryz.prog 91 #[.func (.func 94) #[] #[], .agg #[.float .f64 al, .float .f64 ah], .agg #[.float .f64 bl, .float .f64 bh]] w fun ev w' => ev = .returned (.tuple #[.float .f64 lo, .float .f64 hi]) ∧ Below w.heap.size w w' := by
  have H1 : Hid (∀ w, Calls Tryz.prog 94 #[.float .f64 al, .float .f64 bl] w fun ev w' => ev = .returned (.agg #[.float .f64 d1, .float .f64 u1]) ∧ Below w.heap.size w w') := h1
  have H2 : Hid (∀ w, Calls Tryz.prog 94 #[.float .f64 al, .float .f64 bh] w fun ev w' => ev = .returned (.agg #[.float .f64 d2, .float .f64 u2]) ∧ Below w.heap.size w w') := h2
  have H3 : Hid (∀ w, Calls Tryz.prog 94 #[.float .f64 ah, .float .f64 bl] w fun ev w' => ev = .returned (.agg #[.float .f64 d3, .float .f64 u3]) ∧ Below w.heap.size w w') := h3
  have H4 : Hid (∀ w, Calls Tryz.prog 94 #[.float .f64 ah, .float .f64 bh] w fun ev w' => ev = .returned (.agg #[.float .f64 d4, .float .f64 u4]) ∧ Below w.heap.size w w') := h4
  have f0 := c_fld0
  have f1 := c_fld1
  clear h1 h2 h3 h4
  go_enter Tryz.func91, Tryz.ntmps91
  go_wp2_with fail
  have B0 := blk_old (blk_new w (Obj.cells #[.float .f64 al, .float .f64 ah] 67)) (Obj.cells #[.float .f64 bl, .float .f64 bh] 67)
  have B1 := blk_new (w.alloc (Obj.cells #[.float .f64 al, .float .f64 ah] 67)) (Obj.cells #[.float .f64 bl, .float .f64 bh] 67)
  have hW : Below w.heap.size w ((w.alloc (Obj.cells #[.float .f64 al, .float .f64 ah] 67)).alloc (Obj.cells #[.float .f64 bl, .float .f64 bh] 67)) := ((Below.refl _ _).alloc (Nat.le_refl _) _).alloc (by simp) _
  simp only [World.size_alloc] at B1
  generalize ((w.alloc (Obj.cells #[.float .f64 al, .float .f64 ah] 67)).alloc (Obj.cells #[.float .f64 bl, .float .f64 bh] 67)) = W2 at *
  refine Calls.mono (H1.out _) ?_
  rintro e w3 ⟨rfl, hb3⟩
  have C0 := blk_old (blk_below B0 hb3) (Obj.cells #[.float .f64 d1, .float .f64 u1] 130)
  have C1 := blk_old (blk_below B1 hb3) (Obj.cells #[.float .f64 d1, .float .f64 u1] 130)
  have hX : Below w.heap.size w ((w3.alloc (Obj.cells #[.float .f64 d1, .float .f64 u1] 130)).drew) := ((hW.trans (hb3.mono hW.size)).alloc (Nat.le_trans hW.size hb3.size) _).drew
  clear B0 B1 hb3 hW H1
  go_wp2_with fail
  go_region
  have HC0 : Hid ((w3.alloc (Obj.cells #[.float .f64 d1, .float .f64 u1] 130)).drew.heap[w.heap.size]? = _) := C0
  have HC1 : Hid ((w3.alloc (Obj.cells #[.float .f64 d1, .float .f64 u1] 130)).drew.heap[w.heap.size + 1]? = _) := C1
  have HX : Hid (Below w.heap.size w (w3.alloc (Obj.cells #[.float .f64 d1, .float .f64 u1] 130)).drew) := hX
  clear C0 C1 hX
  generalize (w3.alloc (Obj.cells #[.float .f64 d1, .float .f64 u1] 130)).drew = W4 at *
  obtain ⟨a0, a1, -, -⟩ := blk2 HC0.out
  obtain ⟨b0, b1, -, -⟩ := blk2 HC1.out
  go_wp2_with fail
  have HD0 : Hid (W4.drew.heap[w.heap.size]? = _) := HC0.out
  have HD1 : Hid (W4.drew.heap[w.heap.size + 1]? = _) := HC1.out
  have HY : Hid (Below w.heap.size w W4.drew) := HX.out.drew
  clear HC0 HC1 HX
  go_region_held3 (fun W => W.cell? ⟨w.heap.size, 0, none⟩ = some (.float .f64 al) ∧ W.cell? ⟨w.heap.size, 1, none⟩ = some (.float .f64 ah) ∧ W.cell? ⟨w.heap.size + 1, 0, none⟩ = some (.float .f64 bl) ∧ W.cell? ⟨w.heap.size + 1, 1, none⟩ = some (.float .f64 bh)) (first | (go_keep; done) | (refine ⟨?_, ?_, ?_, ?_⟩ <;> first | (go_keep; done) | assumption))
    (first
      | (go_at_call 94; with_reducible (refine Calls.mono (H2.out _) ?_); rintro e w5 ⟨rfl, hb5⟩
         have HB5 : Hid (Below _ _ w5) := hb5
         obtain ⟨a0, a1, -, -⟩ := blk2 (blk_below HD0.out hb5)
         obtain ⟨b0, b1, -, -⟩ := blk2 (blk_below HD1.out hb5)
         clear hb5)
      | (go_at_call 94; with_reducible (refine Calls.mono (H3.out _) ?_); rintro e w6 ⟨rfl, hb6⟩
         have HB6 : Hid (Below _ _ w6) := hb6
         obtain ⟨a0, a1, -, -⟩ := blk2 (blk_below (blk_below HD0.out HB5.out) hb6)
         obtain ⟨b0, b1, -, -⟩ := blk2 (blk_below (blk_below HD1.out HB5.out) hb6)
         clear hb6)
      | (go_at_call 94; with_reducible (refine Calls.mono (H4.out _) ?_); rintro e w7 ⟨rfl, hb7⟩
         have HB7 : Hid (Below _ _ w7) := hb7
         obtain ⟨a0, a1, -, -⟩ := blk2 (blk_below (blk_below (blk_below HD0.out HB5.out) HB6.out) hb7)
         obtain ⟨b0, b1, -, -⟩ := blk2 (blk_below (blk_below (blk_below HD1.out HB5.out) HB6.out) hb7)
         clear hb7))
  have HZ : Hid (Below w.heap.size w w7) := ((HY.out.trans (HB5.out.mono HY.out.size)).trans (HB6.out.mono (Nat.le_trans HY.out.size HB5.out.size))).trans (HB7.out.mono (Nat.le_trans (Nat.le_trans HY.out.size HB5.out.size) HB6.out.size))
  clear HB5 HB6 HB7 HY HD0 HD1 H2 H3 H4 a0 a1 b0 b1
  have i0 := c_ix0 d2 u2 d3 u3 d4 u4
  have i1 := c_ix1 d2 u2 d3 u3 d4 u4
  have i2 := c_ix2 d2 u2 d3 u3 d4 u4
  unfold MinF at m1 m2 m3
  unfold MaxF at x1 x2 x3
  go_wp2_with fail
  refine wp_loop_rounds 4 ?_
  rw [rounds_succ]
  go_wp2_with fail
  go_region
  go_wp2_with fail
  rw [rounds_succ]
  go_wp2_with fail
  go_region
  go_wp2_with fail
  rw [rounds_succ]
  go_wp2_with fail
  go_region
  go_wp2_with fail
  rw [rounds_succ]
  go_wp2_with fail
  have hZ8 : Below w.heap.size w (((w7.alloc (Obj.cells #[.float .f64 d2, .float .f64 u2] 130)).alloc (Obj.cells #[.float .f64 d3, .float .f64 u3] 130)).alloc (Obj.cells #[.float .f64 d4, .float .f64 u4] 130)).drew.drew.drew := (((HZ.out.alloc HZ.out.size _).alloc (by have := HZ.out.size; simp; omega) _).alloc (by have := HZ.out.size; simp; omega) _).drew.drew.drew
  refine bodyPost_ret (v := .tuple #[.float .f64 lo, .float .f64 hi]) (by simp [results, Tryz.results91, go_sem]) rfl ?_
  exact ⟨rfl, hZ8⟩
end Go.Proofs.YtonhpkigoplmaaaGreatDoor
