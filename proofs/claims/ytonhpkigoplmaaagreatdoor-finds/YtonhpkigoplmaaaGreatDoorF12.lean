/-
  PolyH, PolyF, PieceR, PieceS, PieceT, PieceU, FindM, FindN, ExactF, ExactG, ExactH.
-/
import Derived.Test.YtonhpkigoplmaaaGreatDoorF11
import Derived.Test.YtonhpkigoplmaaaGreatDoorF05
import Derived.Test.YtonhpkigoplmaaaGreatDoorF04
namespace Go.Proofs.YtonhpkigoplmaaaGreatDoor
open Go.RowKit Go.Extern
attribute [local go_sem] run_store_float

theorem horn_stick {ps : Nat → Nat} {n : Nat} {x1 x2 : Bool × Nat × Int} {j : Nat} (h : (hornN ps n x1 x2 j).2.2.1 ≠ 0) : ∀ d, hornN ps n x1 x2 (j + d) = hornN ps n x1 x2 j
  | 0 => rfl
  | d + 1 => by
    show hstep x1 x2 (posW (ps (n - 2 - (j + d)))) (hornN ps n x1 x2 (j + d)) = _
    rw [horn_stick h d]
    unfold hstep
    rw [if_pos h]

theorem ErrIs.zero {A : Nat → Addr} {w : World} {v : Value} {s : ByteArray} (h : ErrIs A w v 0 s) : v = .nilIface := by
  rcases h with ⟨h, -⟩ | ⟨j, -, -, h, -⟩ | ⟨j, -, b, -, -, h⟩
  · exact h
  · omega
  · omega

theorem op3_name {a1 a2 b1 b2 : Bool × Nat × Int} (h : (refOpN 3 a1 a2 b1 b2).2.2.1 = 0) : (refOpN 3 a1 a2 b1 b2).2.2.2 = ⟨#[]⟩ := by
  have e : refOpN 3 a1 a2 b1 b2 = nameT (aroundN (sumT a1 b1) (sumT a2 b2)) ⟨#[43]⟩ := rfl
  rw [e, aroundN_posV] at h ⊢
  rw [(name_code h).2.2]

theorem horn_name {ps : Nat → Nat} {n : Nat} {x1 x2 : Bool × Nat × Int} : ∀ j, (hornN ps n x1 x2 j).2.2.1 = 0 → (hornN ps n x1 x2 j).2.2.2 = ⟨#[]⟩
  | 0, _ => rfl
  | j + 1, h => by
    have e : hornN ps n x1 x2 (j + 1) = hstep x1 x2 (posW (ps (n - 2 - j))) (hornN ps n x1 x2 j) := rfl
    have ih := horn_name (ps := ps) (n := n) (x1 := x1) (x2 := x2) j
    rw [e] at h ⊢
    generalize hornN ps n x1 x2 j = r at *
    unfold hstep at h ⊢
    by_cases hc : r.2.2.1 ≠ 0
    · rw [if_pos hc] at h ⊢; exact ih h
    · rw [if_neg hc] at h ⊢
      by_cases hm : (refOpN 5 (plT r.1) (plT r.2.1) x1 x2).2.2.1 ≠ 0
      · rw [if_pos hm] at h; exact absurd h hm
      · rw [if_neg hm] at h ⊢; exact op3_name h

/-- The boxes of horner. -/
structure HSt (w W : World) (gr xl xh rl rh : Nat) : Prop where
  k3 : W.heap[w.heap.size]? = some (.cells #[.float .f64 xl, .float .f64 xh] 67 (0, 0))
  k4 : W.heap[w.heap.size + 1]? = some (.cells #[.float .f64 0, .float .f64 0] 67 (0, 0))
  kr : W.heap[gr]? = some (.cells #[.float .f64 rl, .float .f64 rh] 67 (0, 0))
  hb : Below w.heap.size w W
  lr : w.heap.size + 1 < gr
theorem HSt.below {w W W' : World} {gr xl xh rl rh : Nat} (m : HSt w W gr xl xh rl rh) (hb : Below W.heap.size W W') : HSt w W' gr xl xh rl rh := ⟨blk_below m.k3 hb, blk_below m.k4 hb, blk_below m.kr hb, m.hb.trans (hb.mono m.hb.size), m.lr⟩
theorem HSt.alloc {w W : World} {gr xl xh rl rh : Nat} (m : HSt w W gr xl xh rl rh) (o : Obj) : HSt w (W.alloc o) gr xl xh rl rh := m.below ((Below.refl _ _).alloc (Nat.le_refl _) o)
theorem HSt.drew {w W : World} {gr xl xh rl rh : Nat} (m : HSt w W gr xl xh rl rh) : HSt w W.drew gr xl xh rl rh := ⟨m.k3, m.k4, m.kr, m.hb.drew, m.lr⟩
theorem HSt.set {w W : World} {gr xl xh rl rh : Nat} (m : HSt w W gr xl xh rl rh) (x y : Nat) : HSt w ((W.setCell ⟨gr, 0, none⟩ (.float .f64 x)).setCell ⟨gr, 1, none⟩ (.float .f64 y)) gr xl xh x y := by
  have e := m.lr
  have e3 : w.heap.size ≠ gr := by omega
  have e4 : w.heap.size + 1 ≠ gr := by omega
  have e5 : w.heap.size ≤ gr := by omega
  exact ⟨blk_set_ne (blk_set_ne m.k3 e3) e3, blk_set_ne (blk_set_ne m.k4 e4) e4, blk_store2 m.kr, (m.hb.setCell (by exact e5) _).setCell (by exact e5) _, m.lr⟩

/-- The boxes of horner in a round: the product's box and the number beside them. -/
structure TSt (w W : World) (gr xl xh rl rh g9 m1 m2 g o q : Nat) : Prop where
  m : HSt w W gr xl xh rl rh
  k9 : W.heap[g9]? = some (.cells #[.float .f64 m1, .float .f64 m2] 67 (0, 0))
  c : W.cell? ⟨g, o, none⟩ = some (.float .f64 q)
  n9 : gr < g9
  lg : g < w.heap.size
theorem TSt.below {w W W' : World} {gr xl xh rl rh g9 m1 m2 g o q : Nat} (x : TSt w W gr xl xh rl rh g9 m1 m2 g o q) (hb : Below W.heap.size W W') : TSt w W' gr xl xh rl rh g9 m1 m2 g o q := ⟨x.m.below hb, blk_below x.k9 hb, by rw [hb.cell (by have := x.m.hb.size; have := x.lg; simp; omega)]; exact x.c, x.n9, x.lg⟩
theorem TSt.drew {w W : World} {gr xl xh rl rh g9 m1 m2 g o q : Nat} (x : TSt w W gr xl xh rl rh g9 m1 m2 g o q) : TSt w W.drew gr xl xh rl rh g9 m1 m2 g o q := ⟨x.m.drew, x.k9, x.c, x.n9, x.lg⟩
theorem TSt.set {w W : World} {gr xl xh rl rh g9 m1 m2 g o q : Nat} (x : TSt w W gr xl xh rl rh g9 m1 m2 g o q) (a b : Nat) : TSt w ((W.setCell ⟨gr, 0, none⟩ (.float .f64 a)).setCell ⟨gr, 1, none⟩ (.float .f64 b)) gr xl xh a b g9 m1 m2 g o q := by
  have e9 : g9 ≠ gr := by have := x.n9; omega
  have eg : g ≠ gr := by have := x.lg; have := x.m.lr; omega
  exact ⟨x.m.set a b, blk_set_ne (blk_set_ne x.k9 e9) e9, by rw [cell_set_ne eg, cell_set_ne eg]; exact x.c, x.n9, x.lg⟩
theorem TSt.cells {w W : World} {gr xl xh rl rh g9 m1 m2 g o q : Nat} (x : TSt w W gr xl xh rl rh g9 m1 m2 g o q) : W.cell? ⟨g9, 0, none⟩ = some (.float .f64 m1) ∧ W.cell? ⟨g9, 1, none⟩ = some (.float .f64 m2) ∧ W.cell? ⟨g, o, none⟩ = some (.float .f64 q) := by
  obtain ⟨a, b, -, -⟩ := blk2 x.k9
  exact ⟨a, b, x.c⟩

theorem ErrIs.alloc' {A : Nat → Addr} {w : World} {v : Value} {k : Nat} {s : ByteArray} (h : ErrIs A w v k s) (o : Obj) : ErrIs A (w.alloc o) v k s := h.below ((Below.refl _ _).alloc (Nat.le_refl _) o)
theorem ErrIs.set3 {A : Nat → Addr} {w : World} {v : Value} {k : Nat} {s : ByteArray} {g : Nat} {a b u u' : Value} (h : ErrIs A w v k s) (z : w.heap[g]? = some (.cells #[a, b] 67 (0, 0))) : ErrIs A ((w.setCell ⟨g, 0, none⟩ u).setCell ⟨g, 1, none⟩ u') v k s :=
  (h.set (BoxT.of z) (by decide)).set (BoxT.of z).set (by decide)

/-- What is known of Horner's steps, counted by how many numbers are left. -/
structure HornK (ps : Nat → Nat) (m : Nat) (xl xh : Nat) (H : Nat → Nat × Nat × Nat × ByteArray) : Prop where
  step : ∀ t, t < m → H t = hstep (plT xl) (plT xh) (posW (ps t)) (H (t + 1))
  first : H m = (posW (ps m), posW (ps m), 0, ⟨#[]⟩)
  iv : ∀ t, t ≤ m → (H t).2.2.1 = 0 → Iv (H t).1 (H t).2.1
  zero : ∀ t, t ≤ m → (H t).2.2.1 ≠ 0 → (H t).1 = 0 ∧ (H t).2.1 = 0
  stick : ∀ t, t ≤ m → (H t).2.2.1 ≠ 0 → H 0 = H t
  name : ∀ t, (H t).2.2.1 = 0 → (H t).2.2.2 = ⟨#[]⟩

theorem hornK {ps : Nat → Nat} {m xl xh : Nat} (hr : rightN ps (m + 1) = 0) (hp : ∀ i, i < m + 1 → ps i < 18446744073709551616) : HornK ps m xl xh (fun t => hornN ps (m + 1) (plT xl) (plT xh) (m - t)) := by
  refine ⟨fun t ht => ?_, ?_, fun t ht => (horn_iv hr hp (m - t) (by omega)).1, fun t ht => (horn_iv hr hp (m - t) (by omega)).2, fun t ht h => ?_, fun t => horn_name (m - t)⟩
  · show hornN ps (m + 1) (plT xl) (plT xh) (m - t) = hstep (plT xl) (plT xh) (posW (ps t)) (hornN ps (m + 1) (plT xl) (plT xh) (m - (t + 1)))
    have e : m - t = (m - (t + 1)) + 1 := by omega
    rw [e]
    show hstep (plT xl) (plT xh) (posW (ps (m + 1 - 2 - (m - (t + 1))))) _ = _
    rw [show m + 1 - 2 - (m - (t + 1)) = t by omega]
  · show hornN ps (m + 1) (plT xl) (plT xh) (m - m) = _
    rw [Nat.sub_self]
    rfl
  · show hornN ps (m + 1) (plT xl) (plT xh) (m - 0) = hornN ps (m + 1) (plT xl) (plT xh) (m - t)
    rw [show m - 0 = (m - t) + t by omega]
    exact horn_stick h t

theorem hstep_bad {x1 x2 : Bool × Nat × Int} {q : Nat} {r : Nat × Nat × Nat × ByteArray} (h0 : r.2.2.1 = 0) (h : (refOpN 5 (plT r.1) (plT r.2.1) x1 x2).2.2.1 ≠ 0) : hstep x1 x2 q r = refOpN 5 (plT r.1) (plT r.2.1) x1 x2 := by
  unfold hstep; rw [if_neg (by omega), if_pos h]
theorem hstep_good {x1 x2 : Bool × Nat × Int} {q : Nat} {r : Nat × Nat × Nat × ByteArray} (h0 : r.2.2.1 = 0) (h : (refOpN 5 (plT r.1) (plT r.2.1) x1 x2).2.2.1 = 0) : hstep x1 x2 q r = refOpN 3 (plT (refOpN 5 (plT r.1) (plT r.2.1) x1 x2).1) (plT (refOpN 5 (plT r.1) (plT r.2.1) x1 x2).2.1) (plT q) (plT q) := by
  unfold hstep; rw [if_neg (by omega), if_neg (by omega)]

set_option maxHeartbeats 4000000 in
set_option maxRecDepth 100000 in
theorem horner_any (A : Nat → Addr) (g off m c : Nat) (ps : Nat → Nat) (xl xh : Nat) (w : World) (hS : Sents A w) (hg : g < w.heap.size) (hc : ∀ i, i < m + 1 → w.cell? ⟨g, off + i, none⟩ = some (.float .f64 (ps i))) (hm9 : m < 9)
    (hP : ∀ i, i < m + 1 → ∀ W : World, Calls Tryz.prog 167 #[.float .f64 (ps i)] W fun e w' => e = .returned (.agg #[.float .f64 (posW (ps i)), .float .f64 (posW (ps i))]) ∧ Below W.heap.size W w')
    (hIP : ∀ i, i < m + 1 → Iv (posW (ps i)) (posW (ps i))) (ix : Iv xl xh) (H : Nat → Nat × Nat × Nat × ByteArray) (hH : HornK ps m xl xh H) :
    Calls Tryz.prog 134 #[.slice (some ⟨g, off, none⟩) (m + 1) c, .agg #[.float .f64 xl, .float .f64 xh]] w fun ev w' => OpR A w (H 0).1 (H 0).2.1 (H 0).2.2.1 (H 0).2.2.2 ev w' := by
  have HC : Hid (∀ i, i < m + 1 → w.cell? ⟨g, off + i, none⟩ = some (.float .f64 (ps i))) := hc
  have HG : Hid (g < w.heap.size) := hg
  have HS : Hid (Sents A w) := hS
  have HP : Hid (∀ i, i < m + 1 → ∀ W : World, Calls Tryz.prog 167 #[.float .f64 (ps i)] W fun e w' => e = .returned (.agg #[.float .f64 (posW (ps i)), .float .f64 (posW (ps i))]) ∧ Below W.heap.size W w') := hP
  have HIP : Hid (∀ i, i < m + 1 → Iv (posW (ps i)) (posW (ps i))) := hIP
  have HIX : Hid (Iv xl xh) := ix
  have HK : Hid (HornK ps m xl xh H) := hH
  have h0 : w.cell? ⟨g, off + m, none⟩ = some (.float .f64 (ps m)) := hc m (by omega)
  clear hS hP hIP ix hH hc
  go_enter Tryz.func134, Tryz.ntmps134
  go_wp2_with fail
  have B3 := blk_old (blk_new w (Obj.cells #[.float .f64 xl, .float .f64 xh] 67)) (Obj.cells #[.float .f64 0, .float .f64 0] 67)
  have B4 := blk_new (w.alloc (Obj.cells #[.float .f64 xl, .float .f64 xh] 67)) (Obj.cells #[.float .f64 0, .float .f64 0] 67)
  have hW : Below w.heap.size w ((w.alloc (Obj.cells #[.float .f64 xl, .float .f64 xh] 67)).alloc (Obj.cells #[.float .f64 0, .float .f64 0] 67)) := ((Below.refl _ _).alloc (Nat.le_refl _) _).alloc (by simp) _
  have hsz : w.heap.size + 1 < ((w.alloc (Obj.cells #[.float .f64 xl, .float .f64 xh] 67)).alloc (Obj.cells #[.float .f64 0, .float .f64 0] 67)).heap.size := by simp
  simp only [World.size_alloc] at B4
  generalize ((w.alloc (Obj.cells #[.float .f64 xl, .float .f64 xh] 67)).alloc (Obj.cells #[.float .f64 0, .float .f64 0] 67)) = W1 at *
  refine Calls.mono (HP.out m (by omega) _) ?_
  rintro e w1 ⟨rfl, hb1⟩
  have M1 : Hid (HSt w (w1.alloc (Obj.cells #[.float .f64 (posW (ps m)), .float .f64 (posW (ps m))] 67)) w1.heap.size xl xh (posW (ps m)) (posW (ps m))) := ⟨blk_old (blk_below B3 hb1) _, blk_old (blk_below B4 hb1) _, blk_new w1 _, (hW.trans (hb1.mono hW.size)).alloc (Nat.le_trans hW.size hb1.size) _, Nat.lt_of_lt_of_le hsz hb1.size⟩
  clear B3 B4 hW hsz hb1 h0
  go_wp2_with fail
  generalize hgr : w1.heap.size = gr at *
  generalize (w1.alloc (Obj.cells #[.float .f64 (posW (ps m)), .float .f64 (posW (ps m))] 67)) = W2 at *
  clear hgr
  go_loopw [8, 9, 10] (fun x _ _ wr => ∃ t : Nat, t ≤ m ∧ x = .int .i64 ((t : Int) - 1) ∧ (H t).2.2.1 = 0 ∧ HSt w wr gr xl xh (H t).1 (H t).2.1) (fun x _ _ _ => (intOf x + 1).toNat)
  case atStart =>
    refine ⟨m, Nat.le_refl _, by first | rfl | go_num, ?_, ?_⟩
    · rw [HK.out.first]
    · rw [HK.out.first]; exact M1.out
  case round =>
    obtain ⟨t, ht, rfl, hcode, hm⟩ := hrel
    clear M1
    cases t with
    | zero =>
      have HM : Hid (HSt w wr gr xl xh (H 0).1 (H 0).2.1) := hm
      have HCD : Hid ((H 0).2.2.1 = 0) := hcode
      obtain ⟨x0, x1, -, -⟩ := blk2 hm.kr
      obtain ⟨z0, z1, z2, z3⟩ := blk2 hm.k4
      clear hm hcode
      go_wp2_with fail
      obtain ⟨p0, p1, -, -⟩ := blk2 (blk_store2 (a := .float .f64 (H 0).1) (b := .float .f64 (H 0).2.1) HM.out.k4)
      refine bodyPost_ret (v := .tuple #[.agg #[.float .f64 (H 0).1, .float .f64 (H 0).2.1], .nilIface]) (by simp [results, Tryz.results134, go_sem, p0, p1]) rfl ?_
      refine ⟨_, rfl, ?_, (HM.out.hb.setCell (by simp) _).setCell (by simp) _⟩
      rw [HCD.out, HK.out.name 0 HCD.out]
      exact .nil
    | succ t =>
      have hct : wr.cell? ⟨g, off + t, none⟩ = some (.float .f64 (ps t)) := by rw [hm.hb.cell (by exact HG.out)]; exact HC.out t (by omega)
      have iv := HK.out.iv (t + 1) ht hcode
      have HB : Hid ((refOpN 5 (plT (H (t + 1)).1) (plT (H (t + 1)).2.1) (plT xl) (plT xh)).2.2.1 ≠ 0 → H t = refOpN 5 (plT (H (t + 1)).1) (plT (H (t + 1)).2.1) (plT xl) (plT xh)) := fun h => (HK.out.step t (by omega)).trans (hstep_bad hcode h)
      have HGD : Hid ((refOpN 5 (plT (H (t + 1)).1) (plT (H (t + 1)).2.1) (plT xl) (plT xh)).2.2.1 = 0 → H t = refOpN 3 (plT (refOpN 5 (plT (H (t + 1)).1) (plT (H (t + 1)).2.1) (plT xl) (plT xh)).1) (plT (refOpN 5 (plT (H (t + 1)).1) (plT (H (t + 1)).2.1) (plT xl) (plT xh)).2.1) (plT (posW (ps t))) (plT (posW (ps t)))) := fun h => (HK.out.step t (by omega)).trans (hstep_good hcode h)
      have HMUL : Hid (∀ W, Below w.heap.size w W → Calls Tryz.prog 46 #[.agg #[.float .f64 (H (t + 1)).1, .float .f64 (H (t + 1)).2.1], .agg #[.float .f64 xl, .float .f64 xh]] W fun ev w' => OpR A W (refOpN 5 (plT (H (t + 1)).1) (plT (H (t + 1)).2.1) (plT xl) (plT xh)).1 (refOpN 5 (plT (H (t + 1)).1) (plT (H (t + 1)).2.1) (plT xl) (plT xh)).2.1 (refOpN 5 (plT (H (t + 1)).1) (plT (H (t + 1)).2.1) (plT xl) (plT xh)).2.2.1 (refOpN 5 (plT (H (t + 1)).1) (plT (H (t + 1)).2.1) (plT xl) (plT xh)).2.2.2 ev w') := fun W hb => m_mul A iv HIX.out _ rfl W (HS.out.below hb (Nat.le_refl _))
      have HIM : Hid ((refOpN 5 (plT (H (t + 1)).1) (plT (H (t + 1)).2.1) (plT xl) (plT xh)).2.2.1 = 0 → Iv (refOpN 5 (plT (H (t + 1)).1) (plT (H (t + 1)).2.1) (plT xl) (plT xh)).1 (refOpN 5 (plT (H (t + 1)).1) (plT (H (t + 1)).2.1) (plT xl) (plT xh)).2.1) := iv_mul
      have HM : Hid (HSt w wr gr xl xh (H (t + 1)).1 (H (t + 1)).2.1) := hm
      have HPT : Hid (∀ W : World, Calls Tryz.prog 167 #[.float .f64 (ps t)] W fun e w' => e = .returned (.agg #[.float .f64 (posW (ps t)), .float .f64 (posW (ps t))]) ∧ Below W.heap.size W w') := HP.out t (by omega)
      have HIT : Hid (Iv (posW (ps t)) (posW (ps t))) := HIP.out t (by omega)
      obtain ⟨x0, x1, -, -⟩ := blk2 hm.kr
      obtain ⟨y0, y1, -, -⟩ := blk2 hm.k3
      clear hm hcode iv HP HIP HC
      generalize refOpN 5 (plT (H (t + 1)).1) (plT (H (t + 1)).2.1) (plT xl) (plT xh) = rm at *
      generalize (H (t + 1)).1 = rl at *
      generalize (H (t + 1)).2.1 = rh at *
      obtain ⟨m1, m2, m3, ms⟩ := rm
      simp only at HB HGD HMUL HIM
      go_wp2_with fail
      refine Calls.mono (HMUL.out _ HM.out.hb) ?_
      intro e w3 hR
      unfold OpR at hR
      obtain ⟨v, rfl, hE, hb3⟩ := hR
      have M3 : Hid (HSt w w3 gr xl xh rl rh) := HM.out.below hb3
      have HE : Hid (ErrIs A w3 v m3 ms) := hE
      have hct3 : w3.cell? ⟨g, off + t, none⟩ = some (.float .f64 (ps t)) := by rw [hb3.cell (by have := HM.out.hb.size; have := HG.out; simp; omega)]; exact hct
      clear hE hb3 hct x0 x1 y0 y1 HM HMUL
      have HF : Hid (m3 ≠ 0 → (H 0).1 = 0 ∧ (H 0).2.1 = 0 ∧ (H 0).2.2.1 = m3 ∧ (H 0).2.2.2 = ms) := fun h => by
        have e := HB.out h
        have hc : (H t).2.2.1 ≠ 0 := by rw [e]; exact h
        obtain ⟨z1, z2⟩ := HK.out.zero t (by omega) hc
        rw [HK.out.stick t (by omega) hc]
        exact ⟨z1, z2, by rw [e], by rw [e]⟩
      by_cases hz : m3 = 0
      · subst hz
        obtain rfl := HE.out.zero
        have HGE := HGD.out rfl
        have hfin : (H t).2.2.1 ≠ 0 → (H 0).1 = 0 ∧ (H 0).2.1 = 0 ∧ (H 0).2.2.1 = (H t).2.2.1 ∧ (H 0).2.2.2 = (H t).2.2.2 := fun h => by
          obtain ⟨z1, z2⟩ := HK.out.zero t (by omega) h
          rw [HK.out.stick t (by omega) h]
          exact ⟨z1, z2, rfl, rfl⟩
        have HADD : Hid (∀ W, Below w.heap.size w W → Calls Tryz.prog 44 #[.agg #[.float .f64 m1, .float .f64 m2], .agg #[.float .f64 (posW (ps t)), .float .f64 (posW (ps t))]] W fun ev w' => OpR A W (H t).1 (H t).2.1 (H t).2.2.1 (H t).2.2.2 ev w') := fun W hb => m_add A (HIM.out rfl) HIT.out _ HGE W (HS.out.below hb (Nat.le_refl _))
        have HFN : Hid ((H t).2.2.1 ≠ 0 → (H 0).1 = 0 ∧ (H 0).2.1 = 0 ∧ (H 0).2.2.1 = (H t).2.2.1 ∧ (H 0).2.2.2 = (H t).2.2.2) := hfin
        have T3 : Hid (TSt w (w3.alloc (Obj.cells #[.float .f64 m1, .float .f64 m2] 67)) gr xl xh rl rh w3.heap.size m1 m2 g (off + t) (ps t)) := ⟨M3.out.alloc _, blk_new w3 _, by rw [World.cell?_of_block (Below.heap_alloc _ _ _ (by have := M3.out.hb.size; have := HG.out; simp; omega))]; exact hct3, lt_of_row M3.out.kr, HG.out⟩
        clear HGE hfin hct3 HF HB HGD HIM HIT M3 HE
        generalize posW (ps t) = q at *
        generalize hHt : H t = ra at *
        obtain ⟨a1, a2, a3, as_⟩ := ra
        simp only at HADD HFN
        have ti1 : (t : Int) < (m : Int) + 1 := by omega
        have ti2 : t < m + 1 := by omega
        have ti3 : (0 : Int) ≤ (t : Int) := by omega
        go_wp2_with fail
        generalize w3.heap.size = g9 at *
        generalize (w3.alloc (Obj.cells #[.float .f64 m1, .float .f64 m2] 67)) = W4 at *
        have iN : Hid (TSt w W4.drew gr xl xh rl rh g9 m1 m2 g (off + t) (ps t)) := T3.out.drew
        clear T3
        go_region_held3 (fun W => W.cell? ⟨g9, 0, none⟩ = some (.float .f64 m1) ∧ W.cell? ⟨g9, 1, none⟩ = some (.float .f64 m2) ∧ W.cell? ⟨g, off + t, none⟩ = some (.float .f64 (ps t))) (first | with_reducible exact iN.out.cells | with_reducible exact (iN.out.set _ _).cells)
          (first
            | (go_at_call 167; with_reducible (refine Calls.mono (HPT.out _) ?_); rintro e v4 ⟨rfl, hbk⟩
               have iN : Hid (TSt w v4 gr xl xh rl rh g9 m1 m2 g (off + t) (ps t)) := iN.out.below hbk
               clear hbk)
            | (go_at_call 44; with_reducible (refine Calls.mono (HADD.out _ ?_) ?_); (with_reducible exact iN.out.m.hb); (intro e v5 hR); (unfold OpR at hR); (obtain ⟨v, rfl, hE, hbk⟩ := hR)
               have HE : Hid (ErrIs A v5 v a3 as_) := hE
               have iN : Hid (TSt w v5 gr xl xh rl rh g9 m1 m2 g (off + t) (ps t)) := iN.out.below hbk
               obtain ⟨zc0, zc1, zc2, zc3⟩ := blk2 iN.out.m.kr
               clear hbk hE))
        have T5 : Hid (TSt w ((v5.setCell ⟨gr, 0, none⟩ (.float .f64 a1)).setCell ⟨gr, 1, none⟩ (.float .f64 a2)) gr xl xh a1 a2 g9 m1 m2 g (off + t) (ps t)) := iN.out.set _ _
        have HE5 : Hid (ErrIs A ((v5.setCell ⟨gr, 0, none⟩ (.float .f64 a1)).setCell ⟨gr, 1, none⟩ (.float .f64 a2)) v a3 as_) := HE.out.set3 iN.out.m.kr
        clear iN HE
        generalize ((v5.setCell ⟨gr, 0, none⟩ (.float .f64 a1)).setCell ⟨gr, 1, none⟩ (.float .f64 a2)) = W6 at *
        by_cases hz : a3 = 0
        · subst hz
          obtain rfl := HE5.out.zero
          clear HADD
          go_wp2_with fail
          go_roundw
          case rel => exact ⟨t, by omega, by go_num, by rw [hHt], by rw [hHt]; exact T5.out.m⟩
          case measure => first | (simp [intOf]; done) | (simp [intOf]; omega)
        · obtain ⟨f1, f2, f3, f4⟩ := HFN.out hz
          have hE := HE5.out
          have HE6 : Hid (ErrIs A ((W6.setCell ⟨w.heap.size + 1, 0, none⟩ (.float .f64 0)).setCell ⟨w.heap.size + 1, 1, none⟩ (.float .f64 0)) v a3 as_) := HE5.out.set3 T5.out.m.k4
          obtain ⟨z0, z1, z2, z3⟩ := blk2 T5.out.m.k4
          have HFF : Hid ((H 0).1 = 0 ∧ (H 0).2.1 = 0 ∧ (H 0).2.2.1 = a3 ∧ (H 0).2.2.2 = as_) := ⟨f1, f2, f3, f4⟩
          clear HFN HE5 HADD f1 f2 f3 f4
          rcases hE with ⟨rfl, rfl, rfl⟩ | ⟨k, hk, rfl, rfl, rfl⟩ | ⟨k, hk, b, hr, rfl, rfl⟩
          · exact absurd rfl hz
          ·
            go_wp2_with fail
            obtain ⟨p0, p1, -, -⟩ := blk2 (blk_store2 (a := .float .f64 0) (b := .float .f64 0) T5.out.m.k4)
            refine bodyPost_ret (v := .tuple #[.agg #[.float .f64 0, .float .f64 0], .iface 229 (.pointer (some (A k)))]) (by simp [results, Tryz.results134, go_sem, p0, p1]) rfl ?_
            obtain ⟨f1, f2, f3, f4⟩ := HFF.out
            rw [f1, f2, f3, f4]
            exact ⟨_, rfl, HE6.out, (T5.out.m.hb.setCell (by simp) _).setCell (by simp) _⟩
          ·
            go_wp2_with fail
            obtain ⟨p0, p1, -, -⟩ := blk2 (blk_store2 (a := .float .f64 0) (b := .float .f64 0) T5.out.m.k4)
            refine bodyPost_ret (v := .tuple #[.agg #[.float .f64 0, .float .f64 0], .iface 136 (.pointer (some ⟨b, 0, none⟩))]) (by simp [results, Tryz.results134, go_sem, p0, p1]) rfl ?_
            obtain ⟨f1, f2, f3, f4⟩ := HFF.out
            rw [f1, f2, f3, f4]
            exact ⟨_, rfl, HE6.out, (T5.out.m.hb.setCell (by simp) _).setCell (by simp) _⟩
      · have hFF := HF.out hz
        have HFF : Hid ((H 0).1 = 0 ∧ (H 0).2.1 = 0 ∧ (H 0).2.2.1 = m3 ∧ (H 0).2.2.2 = ms) := hFF
        have hE := HE.out
        have HE6 : Hid (ErrIs A (((w3.setCell ⟨w.heap.size + 1, 0, none⟩ (.float .f64 0)).setCell ⟨w.heap.size + 1, 1, none⟩ (.float .f64 0)).alloc (Obj.cells #[.float .f64 m1, .float .f64 m2] 67)) v m3 ms) := (HE.out.set3 M3.out.k4).alloc' _
        obtain ⟨z0, z1, z2, z3⟩ := blk2 M3.out.k4
        have lz := lt_of_row M3.out.k4
        clear HF HB HGD HIM HIT HPT HE hct3 hFF
        rcases hE with ⟨rfl, rfl, rfl⟩ | ⟨k, hk, rfl, rfl, rfl⟩ | ⟨k, hk, b, hr, rfl, rfl⟩
        · exact absurd rfl hz
        ·
          go_wp2_with fail
          obtain ⟨p0, p1, -, -⟩ := blk2 (blk_old (blk_store2 (a := .float .f64 0) (b := .float .f64 0) M3.out.k4) (Obj.cells #[.float .f64 m1, .float .f64 m2] 67))
          refine bodyPost_ret (v := .tuple #[.agg #[.float .f64 0, .float .f64 0], .iface 229 (.pointer (some (A k)))]) (by simp [results, Tryz.results134, go_sem, p0, p1]) rfl ?_
          obtain ⟨f1, f2, f3, f4⟩ := HFF.out
          rw [f1, f2, f3, f4]
          exact ⟨_, rfl, HE6.out, ((M3.out.hb.setCell (by simp) _).setCell (by simp) _).alloc (by have := M3.out.hb.size; simp; omega) _⟩
        ·
          go_wp2_with fail
          obtain ⟨p0, p1, -, -⟩ := blk2 (blk_old (blk_store2 (a := .float .f64 0) (b := .float .f64 0) M3.out.k4) (Obj.cells #[.float .f64 m1, .float .f64 m2] 67))
          refine bodyPost_ret (v := .tuple #[.agg #[.float .f64 0, .float .f64 0], .iface 136 (.pointer (some ⟨b, 0, none⟩))]) (by simp [results, Tryz.results134, go_sem, p0, p1]) rfl ?_
          obtain ⟨f1, f2, f3, f4⟩ := HFF.out
          rw [f1, f2, f3, f4]
          exact ⟨_, rfl, HE6.out, ((M3.out.hb.setCell (by simp) _).setCell (by simp) _).alloc (by have := M3.out.hb.size; simp; omega) _⟩
end Go.Proofs.YtonhpkigoplmaaaGreatDoor
namespace Go.Proofs.YtonhpkigoplmaaaGreatDoor
open Go.RowKit

theorem hid {p : Prop} (h : p) : Hid p := h

end Go.Proofs.YtonhpkigoplmaaaGreatDoor
namespace Go.Proofs.YtonhpkigoplmaaaGreatDoor
open Go.RowKit


end Go.Proofs.YtonhpkigoplmaaaGreatDoor
namespace Go.Proofs.YtonhpkigoplmaaaGreatDoor
open Go.RowKit

end Go.Proofs.YtonhpkigoplmaaaGreatDoor
namespace Go.Proofs.YtonhpkigoplmaaaGreatDoor
open Go.RowKit

/-- Boxes as cells. -/
def bvs : List (Nat × Nat) → List Value
  | [] => []
  | p :: l => .int .u64 (p.1 : Int) :: .int .u64 (p.2 : Int) :: bvs l

theorem bvs_append : ∀ a b : List (Nat × Nat), bvs (a ++ b) = bvs a ++ bvs b
  | [], b => rfl
  | p :: a, b => by rw [List.cons_append]; show _ :: _ :: bvs (a ++ b) = _; rw [bvs_append a b]; rfl

theorem ownsRow_mono {W W' : World} {B B' T k : Nat} {v : Value} {n : Nat} {xs : List Value} (h : W.ownsRow B T k v n xs) (hb : Below W.heap.size W W') (hB : B' ≤ B) : W'.ownsRow B' T k v n xs :=
  ⟨h.1, h.2.imp id (fun ⟨g, cap, cur, e, hg, hh, r⟩ => ⟨g, cap, cur, e, Nat.le_trans hB hg, blk_below hh hb, r⟩)⟩

end Go.Proofs.YtonhpkigoplmaaaGreatDoor
namespace Go.Proofs.YtonhpkigoplmaaaGreatDoor
open Go.RowKit Go.Extern Ieee

/-- What Eval gives is an interval, or 0. -/
theorem eval_iv {ps : Nat → Nat} {n : Nat} {x1 x2 : Bool × Nat × Int} (hr : rightN ps n = 0) (hp : ∀ i, i < n → ps i < 18446744073709551616) : Iv (evalN ps n x1 x2).1 (evalN ps n x1 x2).2.1 := by
  obtain ⟨h1, h2, h3⟩ := right_plain hr
  have e : evalN ps n x1 x2 = hornN ps n x1 x2 (n - 1) := by unfold evalN; rw [if_neg (by omega)]
  rw [e]
  obtain ⟨a, b⟩ := horn_iv (x1 := x1) (x2 := x2) hr hp (n - 1) (by omega)
  by_cases hc : (hornN ps n x1 x2 (n - 1)).2.2.1 = 0
  · exact a hc
  · obtain ⟨z1, z2⟩ := b hc
    rw [z1, z2]
    exact ⟨by omega, by omega, by omega, by omega, rfl, rfl, Int.le_refl _⟩

theorem pieceN_drop {ps : Nat → Nat} {n d l h : Nat} (hd : dropN ps n l h = true) : pieceN ps n d l h = [] := by
  cases d with
  | zero => exact if_pos hd
  | succ d => exact if_pos hd
theorem pieceN_leaf {ps : Nat → Nat} {n d l h : Nat} (hd : ¬ dropN ps n l h = true) (hc : d = 0 ∨ ¬ cutN l h = true) : pieceN ps n d l h = [(l, h)] := by
  cases d with
  | zero => exact if_neg hd
  | succ d => exact (if_neg hd).trans (if_neg (hc.resolve_left (by omega)))
theorem pieceN_cut {ps : Nat → Nat} {n d l h : Nat} (hd : ¬ dropN ps n l h = true) (hc : cutN l h = true) : pieceN ps n (d + 1) l h = pieceN ps n d l (midT l h).1 ++ pieceN ps n d (midT l h).1 h := by
  exact (if_neg hd).trans (if_pos hc)

end Go.Proofs.YtonhpkigoplmaaaGreatDoor
namespace Go.Proofs.YtonhpkigoplmaaaGreatDoor
open Go.RowKit Go.Extern Ieee

/-- An interval holds a whole number. -/
structure Hl (l h : Nat) (v : Int) : Prop where
  lo : posF l ≤ posF (fl v)
  hi : posF (fl v) ≤ posF h

theorem iv_fl {v : Int} (h : v.natAbs < 9007199254740992) : Iv (fl v) (fl v) := by
  have := iv_whole (n := v) (by omega)
  rwa [(same_whole h).1] at this
theorem pos_fl {v : Int} (h : v.natAbs < 9007199254740992) : posF (fl v) = posV (wholeN v) (-1) ∧ posF (fl v) = posV (wholeN v) 1 := by
  have := (fr_wdP (plP_whole (n := v) (by omega) (-1))).pos
  rw [(same_whole h).2]
  exact ⟨this, this⟩

theorem Hl.leV {l h : Nat} {v : Int} (H : Hl l h v) (i : Iv l h) (hv : v.natAbs < 9007199254740992) : leV (plT l) (plT (fl v)) ∧ leV (plT (fl v)) (plT h) :=
  have j := iv_fl hv
  ⟨iv_leV (⟨i.lt1, j.lt1, i.z1, j.z1, i.p1, j.p1, H.lo⟩ : Iv l (fl v)), iv_leV (⟨j.lt1, i.lt2, j.z1, i.z2, j.p1, i.p2, H.hi⟩ : Iv (fl v) h)⟩

theorem hl_self {v : Int} : Hl (fl v) (fl v) v := ⟨Int.le_refl _, Int.le_refl _⟩

theorem hl_add {a1 a2 b1 b2 : Nat} {v u : Int} (iA : Iv a1 a2) (iB : Iv b1 b2) (hA : Hl a1 a2 v) (hB : Hl b1 b2 u) (hv : v.natAbs < 9007199254740992) (hu : u.natAbs < 9007199254740992) (hs : (v + u).natAbs < 9007199254740992)
    (h : (refOpN 3 (plT a1) (plT a2) (plT b1) (plT b2)).2.2.1 = 0) : Hl (refOpN 3 (plT a1) (plT a2) (plT b1) (plT b2)).1 (refOpN 3 (plT a1) (plT a2) (plT b1) (plT b2)).2.1 (v + u) := by
  have e : refOpN 3 (plT a1) (plT a2) (plT b1) (plT b2) = nameT (aroundN (sumT (plT a1) (plT b1)) (sumT (plT a2) (plT b2))) ⟨#[43]⟩ := rfl
  rw [e, aroundN_posV] at h ⊢
  obtain ⟨h1, h2, h3⟩ := name_code h
  rw [h3]
  have hz : MeansT 0 (v + u) (sumT (plT (fl v)) (plT (fl u))) := sumN_means (means_fl hv) (means_fl hu)
  obtain ⟨p1, p2⟩ := pos_fl hs
  have q1 := pos_whole hz (.inl rfl)
  have q2 := pos_whole hz (.inr rfl)
  have m1 := posV_mono (-1) (.inl rfl) (sum_mono (hA.leV iA hv).1 (hB.leV iB hu).1)
  have m2 := posV_mono 1 (.inr rfl) (sum_mono (hA.leV iA hv).2 (hB.leV iB hu).2)
  refine ⟨?_, ?_⟩
  · show posF (wdP _) ≤ _
    rw [(fr_wdP h1).pos, p1]; omega
  · show _ ≤ posF (wdP _)
    rw [(fr_wdP h2).pos, p2]; omega

theorem means_prodE {e f a b : Int} {x y : Bool × Nat × Int} (hx : MeansT e a x) (hy : MeansT f b y) : MeansT (e + f) (a * b) (prodN x y) := by
  have h : Means (e + f) (a * b) (x.1 ^^ y.1) (x.2.1 * y.2.1) (x.2.2 + y.2.2) := mul_means hx hy
  by_cases h0 : x.2.1 * y.2.1 = 0
  · have hz : a * b = 0 := by
      have := h (min (e + f) (x.2.2 + y.2.2)) (by omega) (by omega)
      rw [h0, Nat.zero_mul] at this
      have hp := Nat.two_pow_pos (e + f - min (e + f) (x.2.2 + y.2.2)).toNat
      have e0 : sg (x.1 ^^ y.1) 0 = 0 := by unfold sg; split <;> rfl
      rw [e0] at this
      rcases Int.mul_eq_zero.1 this.symm with h | h
      · exact h
      · omega
    rw [hz]
    exact means_zero2 (x := prodN x y) h0 _
  · have : prodN x y = ((x.1 ^^ y.1), x.2.1 * y.2.1, x.2.2 + y.2.2) := by
      unfold prodN
      rw [decide_eq_true h0, Bool.and_true]
    rw [this]
    exact h

/-- A product lies between two products of the ends. -/
theorem prod_ends {x1 x2 v u : Bool × Nat × Int} (h1 : leV x1 v) (h2 : leV v x2) : (leV (prodN x1 u) (prodN v u) ∧ leV (prodN v u) (prodN x2 u)) ∨ (leV (prodN x2 u) (prodN v u) ∧ leV (prodN v u) (prodN x1 u)) := by
  have e1 : min (min x1.2.2 x2.2.2) v.2.2 ≤ x1.2.2 := by omega
  have e2 : min (min x1.2.2 x2.2.2) v.2.2 ≤ x2.2.2 := by omega
  have e3 : min (min x1.2.2 x2.2.2) v.2.2 ≤ v.2.2 := by omega
  have m1 := means_low2 x1 e1
  have m2 := means_low2 x2 e2
  have m3 := means_low2 v e3
  have mu := means_low2 u (Int.le_refl _)
  have l1 := leV_means2 h1 e1 e3
  have l2 := leV_means2 h2 e3 e2
  have p1 := means_prodE m1 mu
  have p2 := means_prodE m2 mu
  have p3 := means_prodE m3 mu
  generalize sg u.1 (u.2.1 * 2 ^ (u.2.2 - u.2.2).toNat) = U at *
  rcases Int.le_total 0 U with hU | hU
  · left
    exact ⟨leV_means p1 p3 (Int.mul_le_mul_of_nonneg_right l1 hU), leV_means p3 p2 (Int.mul_le_mul_of_nonneg_right l2 hU)⟩
  · right
    exact ⟨leV_means p2 p3 (Int.mul_le_mul_of_nonpos_right l2 hU), leV_means p3 p1 (Int.mul_le_mul_of_nonpos_right l1 hU)⟩

theorem prod_comm (x y : Bool × Nat × Int) : prodN x y = prodN y x := by
  unfold prodN
  rw [Nat.mul_comm x.2.1, Int.add_comm x.2.2]
  cases x.1 <;> cases y.1 <;> rfl

theorem hl_mul {a1 a2 b1 b2 : Nat} {v u : Int} (iA : Iv a1 a2) (iB : Iv b1 b2) (hA : Hl a1 a2 v) (hB : Hl b1 b2 u) (hv : v.natAbs < 9007199254740992) (hu : u.natAbs < 9007199254740992) (hs : (v * u).natAbs < 9007199254740992)
    (h : (refOpN 5 (plT a1) (plT a2) (plT b1) (plT b2)).2.2.1 = 0) : Hl (refOpN 5 (plT a1) (plT a2) (plT b1) (plT b2)).1 (refOpN 5 (plT a1) (plT a2) (plT b1) (plT b2)).2.1 (v * u) := by
  have e : refOpN 5 (plT a1) (plT a2) (plT b1) (plT b2) = nameT (spanT (prodN (plT a1) (plT b1)) (prodN (plT a1) (plT b2)) (prodN (plT a2) (plT b1)) (prodN (plT a2) (plT b2))) ⟨#[42]⟩ := rfl
  rw [e, span_posV] at h ⊢
  obtain ⟨h1, h2, h3⟩ := name_code h
  rw [h3]
  have hz : MeansT 0 (v * u) (prodN (plT (fl v)) (plT (fl u))) := means_prod (means_fl hv) (means_fl hu)
  obtain ⟨p1, p2⟩ := pos_fl hs
  have q1 := pos_whole hz (.inl rfl)
  have q2 := pos_whole hz (.inr rfl)
  obtain ⟨z1, e1⟩ := pick_min4 (prodN (plT a1) (plT b1)) (prodN (plT a1) (plT b2)) (prodN (plT a2) (plT b1)) (prodN (plT a2) (plT b2))
  obtain ⟨z2, e2⟩ := pick_max4 (prodN (plT a1) (plT b1)) (prodN (plT a1) (plT b2)) (prodN (plT a2) (plT b1)) (prodN (plT a2) (plT b2))
  have f1 := e1
  have f2 := e2
  rw [e1] at h1 ⊢
  rw [e2] at h2 ⊢
  have hA' := hA.leV iA hv
  have hB' := hB.leV iB hu
  have c0 := prod_ends (u := plT (fl u)) hA'.1 hA'.2
  have c1 := prod_ends (u := plT a1) hB'.1 hB'.2
  have c2 := prod_ends (u := plT a2) hB'.1 hB'.2
  rw [prod_comm (plT b1), prod_comm (plT b2), prod_comm (plT (fl u))] at c1 c2
  have lo : ∀ {x y : Bool × Nat × Int}, leV x y → posV x (-1) ≤ posV y (-1) := fun h => posV_mono (-1) (.inl rfl) h
  have hi : ∀ {x y : Bool × Nat × Int}, leV x y → posV x 1 ≤ posV y 1 := fun h => posV_mono 1 (.inr rfl) h
  refine ⟨?_, ?_⟩
  · show posF (wdP _) ≤ _
    rw [(fr_wdP h1).pos, p1, ← q1]
    rcases c0 with ⟨a, b⟩ | ⟨a, b⟩ <;> rcases c1 with ⟨c, d⟩ | ⟨c, d⟩ <;> rcases c2 with ⟨g, k⟩ | ⟨g, k⟩ <;> (have := lo a; have := lo c; have := lo g; omega)
  · show _ ≤ posF (wdP _)
    rw [(fr_wdP h2).pos, p2, ← q2]
    rcases c0 with ⟨a, b⟩ | ⟨a, b⟩ <;> rcases c1 with ⟨c, d⟩ | ⟨c, d⟩ <;> rcases c2 with ⟨g, k⟩ | ⟨g, k⟩ <;> (have := hi b; have := hi d; have := hi k; omega)

/-- Horner's way at a whole number. -/
def hornI (cs : Nat → Int) (n : Nat) (r : Int) : Nat → Int
  | 0 => cs (n - 1)
  | j + 1 => hornI cs n r j * r + cs (n - 2 - j)

theorem posW_fl {v : Int} (h : v.natAbs < 9007199254740992) : posW (fl v) = fl v := by
  have i := iv_fl h
  unfold posW
  by_cases hz : fl v % 9223372036854775808 = 0
  · rw [if_pos hz]; have := i.lt1; have := i.z1; omega
  · rw [if_neg hz]

theorem hl_horn {ps : Nat → Nat} {cs : Nat → Int} {n l h : Nat} {r : Int} (hr : rightN ps n = 0) (hp : ∀ i, i < n → ps i = fl (cs i)) (hc : ∀ i, i < n → (cs i).natAbs < 9007199254740992) (i : Iv l h) (H : Hl l h r) (hrb : r.natAbs < 9007199254740992)
    (hb : ∀ j, j < n → (hornI cs n r j).natAbs < 9007199254740992 ∧ (hornI cs n r j * r).natAbs < 9007199254740992) : ∀ j, j < n → (hornN ps n (plT l) (plT h) j).2.2.1 = 0 → Hl (hornN ps n (plT l) (plT h) j).1 (hornN ps n (plT l) (plT h) j).2.1 (hornI cs n r j)
  | 0, hj, _ => by
    show Hl (posW (ps (n - 1))) (posW (ps (n - 1))) (cs (n - 1))
    rw [hp _ (by omega), posW_fl (hc _ (by omega))]
    exact hl_self
  | j + 1, hj, h0 => by
    have hw : ∀ i, i < n → ps i < 18446744073709551616 := fun i hi => by rw [hp i hi]; exact (iv_fl (hc i hi)).lt1
    have ij := horn_iv (x1 := plT l) (x2 := plT h) hr hw j (by omega)
    have ih := hl_horn hr hp hc i H hrb hb j (by omega)
    have e : hornN ps n (plT l) (plT h) (j + 1) = hstep (plT l) (plT h) (posW (ps (n - 2 - j))) (hornN ps n (plT l) (plT h) j) := rfl
    rw [hp _ (by omega), posW_fl (hc _ (by omega))] at e
    rw [e] at h0 ⊢
    have b1 := hb j (by omega)
    have b2 := hb (j + 1) hj
    have b3 := hc (n - 2 - j) (by omega)
    have e2 : hornI cs n r (j + 1) = hornI cs n r j * r + cs (n - 2 - j) := rfl
    rw [e2] at b2 ⊢
    generalize hornN ps n (plT l) (plT h) j = q at *
    unfold hstep at h0 ⊢
    by_cases hq : q.2.2.1 ≠ 0
    · rw [if_pos hq] at h0; exact absurd h0 hq
    · rw [if_neg hq] at h0 ⊢
      by_cases hm : (refOpN 5 (plT q.1) (plT q.2.1) (plT l) (plT h)).2.2.1 ≠ 0
      · rw [if_pos hm] at h0; exact absurd h0 hm
      · rw [if_neg hm] at h0 ⊢
        have hq0 := Decidable.not_not.1 hq
        have hm0 := Decidable.not_not.1 hm
        exact hl_add (iv_mul hm0) (iv_fl b3) (hl_mul (ij.1 hq0) i (ih hq0) H b1.1 hrb b1.2 hm0) hl_self b1.2 b3 b2.1 h0

theorem hl_zero {l h : Nat} (i : Iv l h) (H : Hl l h 0) : holdsT (plT l) (plT h) = true := by
  obtain ⟨h1, h2⟩ := H
  rw [fl_zero] at h1 h2
  have e0 : plT 0 = (false, 0, 0) := rfl
  have j : Iv 0 0 := by have := iv_fl (v := 0) (by decide); rwa [fl_zero] at this
  have m0 : MeansT 0 0 (plT 0) := means_zero2 rfl 0
  have a1 := lessT_pos j i.low
  have a2 := lessT_pos i j
  rw [decide_eq_false (by omega)] at a1 a2
  have b1 := means_sgn (means_neg (means_low2 (plT l) (Int.le_refl _)))
  have b2 := means_sgn (means_low2 (plT h) (Int.le_refl _))
  have c1 := lessT_means (means_zero2 (x := plT 0) rfl (plT l).2.2) (means_low2 (plT l) (Int.le_refl _))
  have c2 := lessT_means (means_low2 (plT h) (Int.le_refl _)) (means_zero2 (x := plT 0) rfl (plT h).2.2)
  rw [a1] at c1
  rw [a2] at c2
  have s1 : sgnI (plT l).1 (plT l).2.1 ≤ 0 := by
    have n1 : ¬ 0 < sg (plT l).1 ((plT l).2.1 * 2 ^ ((plT l).2.2 - (plT l).2.2).toNat) := fun h => Bool.false_ne_true (c1.2 h)
    rw [Int.sub_self, show (0 : Int).toNat = 0 from rfl, Nat.pow_zero, Nat.mul_one] at n1
    unfold sgnI
    unfold sg at n1
    split
    · omega
    · cases hs : (plT l).1
      · rw [hs] at n1; rw [if_neg Bool.false_ne_true] at n1; omega
      · rw [if_pos rfl]; omega
  have s2 : 0 ≤ sgnI (plT h).1 (plT h).2.1 := by
    have n1 : ¬ sg (plT h).1 ((plT h).2.1 * 2 ^ ((plT h).2.2 - (plT h).2.2).toNat) < 0 := fun h => Bool.false_ne_true (c2.2 h)
    rw [Int.sub_self, show (0 : Int).toNat = 0 from rfl, Nat.pow_zero, Nat.mul_one] at n1
    unfold sgnI
    unfold sg at n1
    split
    · omega
    · cases hs : (plT h).1
      · rw [if_neg Bool.false_ne_true]; omega
      · rw [hs] at n1; rw [if_pos rfl] at n1; omega
  unfold holdsT
  rw [decide_eq_true s1, decide_eq_true s2]; rfl

/-- A piece with a root is not thrown away. -/
theorem hl_keep {ps : Nat → Nat} {cs : Nat → Int} {n l h : Nat} {r : Int} (hr : rightN ps n = 0) (hp : ∀ i, i < n → ps i = fl (cs i)) (hc : ∀ i, i < n → (cs i).natAbs < 9007199254740992) (i : Iv l h) (H : Hl l h r) (hrb : r.natAbs < 9007199254740992)
    (hb : ∀ j, j < n → (hornI cs n r j).natAbs < 9007199254740992 ∧ (hornI cs n r j * r).natAbs < 9007199254740992) (h0 : hornI cs n r (n - 1) = 0) : dropN ps n l h = false := by
  have hn := (right_plain hr).1
  have hw : ∀ i, i < n → ps i < 18446744073709551616 := fun i hi => by rw [hp i hi]; exact (iv_fl (hc i hi)).lt1
  have ij := horn_iv (x1 := plT l) (x2 := plT h) hr hw (n - 1) (by omega)
  have ih := hl_horn hr hp hc i H hrb hb (n - 1) (by omega)
  unfold dropN evalN
  rw [if_neg (by omega), Bool.and_eq_false_iff]
  by_cases hq : (hornN ps n (plT l) (plT h) (n - 1)).2.2.1 = 0
  · right
    have := ih hq
    rw [h0] at this
    rw [hl_zero (ij.1 hq) this]; rfl
  · left
    exact decide_eq_false hq

theorem hl_piece {ps : Nat → Nat} {cs : Nat → Int} {n : Nat} {r : Int} (hr : rightN ps n = 0) (hp : ∀ i, i < n → ps i = fl (cs i)) (hc : ∀ i, i < n → (cs i).natAbs < 9007199254740992) (hrb : r.natAbs < 9007199254740992)
    (hb : ∀ j, j < n → (hornI cs n r j).natAbs < 9007199254740992 ∧ (hornI cs n r j * r).natAbs < 9007199254740992) (h0 : hornI cs n r (n - 1) = 0) : ∀ d l h, Iv l h → Hl l h r → ∃ q, q ∈ pieceN ps n d l h ∧ Hl q.1 q.2 r
  | 0, l, h, i, H => by
    have hd := hl_keep hr hp hc i H hrb hb h0
    unfold pieceN
    rw [hd, if_neg Bool.false_ne_true]
    exact ⟨(l, h), by simp, H⟩
  | d + 1, l, h, i, H => by
    have hd := hl_keep hr hp hc i H hrb hb h0
    unfold pieceN
    rw [hd, if_neg Bool.false_ne_true]
    by_cases hcut : cutN l h = true
    · rw [if_pos hcut]
      obtain ⟨i1, i2, _⟩ := cut_iv i hcut
      rcases Int.le_total (posF (fl r)) (posF (midT l h).1) with hm | hm
      · obtain ⟨q, hq, Q⟩ := hl_piece hr hp hc hrb hb h0 d l (midT l h).1 i1 ⟨H.lo, hm⟩
        exact ⟨q, List.mem_append.2 (.inl hq), Q⟩
      · obtain ⟨q, hq, Q⟩ := hl_piece hr hp hc hrb hb h0 d (midT l h).1 h i2 ⟨hm, H.hi⟩
        exact ⟨q, List.mem_append.2 (.inr hq), Q⟩
    · rw [if_neg hcut]
      exact ⟨(l, h), by simp, H⟩

/-- Every piece is an interval. -/
theorem piece_iv {ps : Nat → Nat} {n : Nat} : ∀ d l h, Iv l h → ∀ q, q ∈ pieceN ps n d l h → Iv q.1 q.2
  | 0, l, h, i, q, hq => by
    unfold pieceN at hq
    split at hq
    · simp at hq
    · simp at hq; subst hq; exact i
  | d + 1, l, h, i, q, hq => by
    unfold pieceN at hq
    split at hq
    · simp at hq
    · split at hq
      · rename_i hcut
        obtain ⟨i1, i2, _⟩ := cut_iv i hcut
        rcases List.mem_append.1 hq with h | h
        · exact piece_iv d _ _ i1 q h
        · exact piece_iv d _ _ i2 q h
      · simp at hq; subst hq; exact i
end Go.Proofs.YtonhpkigoplmaaaGreatDoor
namespace Go.Proofs.YtonhpkigoplmaaaGreatDoor
open Go.RowKit Go.Extern Ieee

/-- Its numbers. -/
def csI (a b c : Int) : Nat → Int
  | 0 => -a * b * c
  | 1 => a * b + a * c + b * c
  | 2 => -a - b - c
  | _ => 1

theorem mul_b {x y : Int} {m k : Nat} (hx : x.natAbs ≤ m) (hy : y.natAbs ≤ k) : (x * y).natAbs ≤ m * k := by
  rw [Int.natAbs_mul]; exact Nat.mul_le_mul hx hy

theorem cs_b {a b c : Int} (ha : a.natAbs ≤ 8) (hb : b.natAbs ≤ 8) (hc : c.natAbs ≤ 8) : ∀ i, (csI a b c i).natAbs ≤ 512 := by
  have h1 := mul_b ha hb
  have h2 := mul_b ha hc
  have h3 := mul_b hb hc
  have h4 : (-a).natAbs ≤ 8 := by omega
  have h5 := mul_b h4 hb
  have h6 := mul_b h5 hc
  intro i
  match i with
  | 0 => exact h6
  | 1 => show (a * b + a * c + b * c).natAbs ≤ 512; omega
  | 2 => show (-a - b - c).natAbs ≤ 512; omega
  | i + 3 => show (1 : Int).natAbs ≤ 512; decide

theorem horn_b {a b c r : Int} (ha : a.natAbs ≤ 8) (hb : b.natAbs ≤ 8) (hc : c.natAbs ≤ 8) (hr : r.natAbs ≤ 8) : ∀ j, j < 4 → (hornI (csI a b c) 4 r j).natAbs < 9007199254740992 ∧ (hornI (csI a b c) 4 r j * r).natAbs < 9007199254740992 := by
  have cb := cs_b ha hb hc
  have h0 : (hornI (csI a b c) 4 r 0).natAbs ≤ 1 := by show (1 : Int).natAbs ≤ 1; decide
  have m0 := mul_b h0 hr
  have h1 : (hornI (csI a b c) 4 r 1).natAbs ≤ 520 := by
    have e : hornI (csI a b c) 4 r 1 = hornI (csI a b c) 4 r 0 * r + csI a b c 2 := rfl
    have := cb 2
    rw [e]; omega
  have m1 := mul_b h1 hr
  have h2 : (hornI (csI a b c) 4 r 2).natAbs ≤ 4672 := by
    have e : hornI (csI a b c) 4 r 2 = hornI (csI a b c) 4 r 1 * r + csI a b c 1 := rfl
    have := cb 1
    rw [e]; omega
  have m2 := mul_b h2 hr
  have h3 : (hornI (csI a b c) 4 r 3).natAbs ≤ 37888 := by
    have e : hornI (csI a b c) 4 r 3 = hornI (csI a b c) 4 r 2 * r + csI a b c 0 := rfl
    have := cb 0
    rw [e]; omega
  have m3 := mul_b h3 hr
  intro j hj
  match j, hj with
  | 0, _ => omega
  | 1, _ => omega
  | 2, _ => omega
  | 3, _ => omega

theorem horn_root {a b c r : Int} (h : r = a ∨ r = b ∨ r = c) : hornI (csI a b c) 4 r 3 = 0 := by
  show ((1 * r + (-a - b - c)) * r + (a * b + a * c + b * c)) * r + -a * b * c = 0
  rcases h with rfl | rfl | rfl <;> grind

/-- Whether a number is less hangs on what it means alone. -/
theorem lessT_l {e z : Int} {x x' y : Bool × Nat × Int} (h : MeansT e z x) (h' : MeansT e z x') : lessT x y = lessT x' y := by
  have a := means_down h (c := min e y.2.2) (by omega)
  have a' := means_down h' (c := min e y.2.2) (by omega)
  have b := means_low2 y (e := min e y.2.2) (by omega)
  rw [Bool.eq_iff_iff, lessT_means a b, lessT_means a' b]
theorem lessT_r {e z : Int} {x x' y : Bool × Nat × Int} (h : MeansT e z x) (h' : MeansT e z x') : lessT y x = lessT y x' := by
  have a := means_down h (c := min e y.2.2) (by omega)
  have a' := means_down h' (c := min e y.2.2) (by omega)
  have b := means_low2 y (e := min e y.2.2) (by omega)
  rw [Bool.eq_iff_iff, lessT_means b a, lessT_means b a']

theorem hl_less {l h : Nat} {r : Int} (i : Iv l h) (H : Hl l h r) (hr : r.natAbs < 9007199254740992) : lessT (wholeN r) (plT l) = false ∧ lessT (plT h) (wholeN r) = false := by
  have m := means_fl hr
  have m' : MeansT 0 r (wholeN r) := means_self 0 r
  rw [lessT_l m' m, lessT_r m' m, lessT_pos (iv_fl hr) i.low, lessT_pos i (iv_fl hr)]
  exact ⟨decide_eq_false (by have := H.lo; omega), decide_eq_false (by have := H.hi; omega)⟩

theorem pos_le {x y : Int} (hx : x.natAbs < 9007199254740992) (hy : y.natAbs < 9007199254740992) (h : x ≤ y) : posF (fl x) ≤ posF (fl y) := by
  rw [(pos_fl hx).1, (pos_fl hy).1]
  exact posV_mono (-1) (.inl rfl) (leV_means (means_self 0 x) (means_self 0 y) h)

theorem iv_fls {x y : Int} (hx : x.natAbs < 9007199254740992) (hy : y.natAbs < 9007199254740992) (h : x ≤ y) : Iv (fl x) (fl y) := by
  have i := iv_fl hx
  have j := iv_fl hy
  exact ⟨i.lt1, j.lt1, i.z1, j.z1, i.p1, j.p1, pos_le hx hy h⟩

theorem right_cs {ps : Nat → Nat} {cs : Nat → Int} (hps : ∀ i, i < 4 → ps i = fl (cs i)) (hc : ∀ i, i < 4 → (cs i).natAbs < 9007199254740992) : rightN ps 4 = 0 := by
  unfold rightN
  rw [if_neg (by omega), if_pos]
  rw [List.all_eq_true]
  intro i hi
  have h4 := List.mem_range.1 hi
  rw [hps i h4, (iv_fl (hc i h4)).p1]
  rfl

/-- Every piece may be asked for a root, and one holds it. -/
theorem find_piece {ps : Nat → Nat} {a b c r lo hi : Int} (d : Nat) (ha : a.natAbs ≤ 8) (hb : b.natAbs ≤ 8) (hc : c.natAbs ≤ 8) (hr : r = a ∨ r = b ∨ r = c) (hlo : lo.natAbs ≤ 1000) (hhi : hi.natAbs ≤ 1000) (hps : ∀ i, i < 4 → ps i = fl (csI a b c i)) (h1 : lo ≤ r) (h2 : r ≤ hi) :
    ∃ q, q ∈ pieceN ps 4 d (fl lo) (fl hi) ∧ lessT (wholeN r) (plT q.1) = false ∧ lessT (plT q.2) (wholeN r) = false := by
  have hrb : r.natAbs ≤ 8 := by rcases hr with rfl | rfl | rfl <;> assumption
  have cb := cs_b ha hb hc
  have hcb : ∀ i, i < 4 → (csI a b c i).natAbs < 9007199254740992 := fun i _ => by have := cb i; omega
  have i0 := iv_fls (x := lo) (y := hi) (by omega) (by omega) (by omega)
  obtain ⟨q, hq, H⟩ := hl_piece (right_cs hps hcb) hps hcb (by omega) (horn_b ha hb hc hrb) (horn_root hr) d (fl lo) (fl hi) i0 ⟨pos_le (by omega) (by omega) h1, pos_le (by omega) (by omega) h2⟩
  have iq := piece_iv d _ _ i0 q hq
  exact ⟨q, hq, hl_less iq H (by omega)⟩
end Go.Proofs.YtonhpkigoplmaaaGreatDoor
namespace Go.Proofs.YtonhpkigoplmaaaGreatDoor
open Go.RowKit Go.Extern Ieee
attribute [local go_sem] run_store_float

theorem ofInt_nat (n : Int) : (BitVec.ofInt 64 n).toNat = (n % 18446744073709551616).toNat := by
  rw [BitVec.toNat_ofInt]; rfl

theorem i64_low (n : Int) : bits .and .i64 n 2047 = n % 2048 := by
  show IntKind.i64.wrap ((BitVec.ofInt 64 n &&& BitVec.ofInt 64 2047).toNat : Int) = _
  rw [BitVec.toNat_and, ofInt_nat, ofInt_nat, IntKind.wrap_i64, show ((2047 : Int) % 18446744073709551616).toNat = 2047 by decide]
  have : (n % 18446744073709551616).toNat &&& 2047 = (n % 18446744073709551616).toNat % 2048 := Nat.and_two_pow_sub_one_eq_mod _ 11
  rw [this]
  omega

theorem i64_high2 (n : Int) (h1 : -9223372036854775808 ≤ n) (h2 : n < 9223372036854775808) : bits .andNot .i64 n 2047 = n - n % 2048 := by
  show IntKind.i64.wrap ((BitVec.ofInt 64 n &&& ~~~BitVec.ofInt 64 2047).toNat : Int) = _
  rw [BitVec.toNat_and, BitVec.toNat_not, ofInt_nat, ofInt_nat, IntKind.wrap_i64, show ((2047 : Int) % 18446744073709551616).toNat = 2047 by decide, show 2 ^ 64 - 1 - 2047 = 18446744073709549568 by decide, nat_hi64_11]
  omega

set_option maxHeartbeats 400000 in
theorem aroundWhole_any (n : Int) (w : World) (h1 : -9223372036854775808 ≤ n) (h2 : n < 9223372036854775808) :
    Calls Tryz.prog 128 #[.int .i64 n] w fun e w' => e = .returned (.agg #[.float .f64 (wholeLo n), .float .f64 (wholeHi n)]) ∧ Below w.heap.size w w' := by
  have HL : Hid (floatOfInt FloatKind.f64 (bits BinOp.and IntKind.i64 n 2047) = fd 0 (n % 2048)) := by show _ = _; rw [i64_low]; rfl
  have HH : Hid (floatOfInt FloatKind.f64 (bits BinOp.andNot IntKind.i64 n 2047) = fd 0 (n - n % 2048)) := by show _ = _; rw [i64_high2 n h1 h2]; rfl
  have HS : Hid (∀ w, Calls Tryz.prog 89 #[.float .f64 (fd 0 (n - n % 2048)), .float .f64 (fd 0 (n % 2048))] w fun e w' => e = .returned (.agg #[.float .f64 (wholeLo n), .float .f64 (wholeHi n)]) ∧ Below w.heap.size w w') := by
    intro w
    have p63 : (2 : Nat) ^ 63 = 9223372036854775808 := by decide
    exact sum_whole n _ _ w (by rw [p63]; omega) (by omega) (by rw [p63]; omega) (by omega) (by omega)
  clear h1 h2
  go_enter Tryz.func128, Tryz.ntmps128
  go_wp2_with fail
  rw [HL.out, HH.out]
  refine Calls.mono (HS.out _) ?_
  rintro e w1 ⟨rfl, hb1⟩
  have B0 := blk_below (blk_new w _) hb1
  obtain ⟨k0, k1, k2, k3⟩ := blk2 B0
  have hz : w.heap.size < w1.heap.size := (Array.getElem?_eq_some_iff.1 B0).1
  have HB1 : Hid (Below w.heap.size w w1) := ((Below.refl _ _).alloc (Nat.le_refl _) _).trans (hb1.mono (by simp))
  have HB0 : Hid (w1.heap[w.heap.size]? = _) := B0
  clear hb1 B0 HS HL HH
  go_wp2
  obtain ⟨c10, c11, -, -⟩ := blk2 (blk_old (blk_store2 (a := .float .f64 (wholeLo n)) (b := .float .f64 (wholeHi n)) HB0.out) (Obj.cells #[Value.float FloatKind.f64 (wholeLo n), Value.float FloatKind.f64 (wholeHi n)] 130))
  refine bodyPost_ret (v := .agg #[.float .f64 (wholeLo n), .float .f64 (wholeHi n)]) (by simp [results, Tryz.results128, go_sem, c10, c11]) rfl ?_
  exact ⟨rfl, ((HB1.out.setCell (by simp) _).setCell (by simp) _).alloc (by have := HB1.out.size; simpa using this) _⟩
end Go.Proofs.YtonhpkigoplmaaaGreatDoor
namespace Go.Proofs.YtonhpkigoplmaaaGreatDoor
open Go.RowKit Go.Extern Ieee
attribute [local go_sem] run_store_float

theorem halves_int (w : World) : Calls Tryz.prog 127 #[] w fun e w' => e = .returned (.bool false) ∧ w' = w := by
  go_enter Tryz.func127, Tryz.ntmps127
  go_wp2
  go_ret
  exact ⟨rfl, rfl⟩

theorem halves_int32 (w : World) : Calls Tryz.prog 129 #[] w fun e w' => e = .returned (.bool false) ∧ w' = w := by
  go_enter Tryz.func129, Tryz.ntmps129
  go_wp2
  go_ret
  exact ⟨rfl, rfl⟩

theorem halves_int64 (w : World) : Calls Tryz.prog 130 #[] w fun e w' => e = .returned (.bool false) ∧ w' = w := by
  go_enter Tryz.func130, Tryz.ntmps130
  go_wp2
  go_ret
  exact ⟨rfl, rfl⟩

theorem halves_small (w : World) : Calls Tryz.prog 132 #[] w fun e w' => e = .returned (.bool false) ∧ w' = w := by
  go_enter Tryz.func132, Tryz.ntmps132
  go_wp2
  go_ret
  exact ⟨rfl, rfl⟩

theorem one_f : floatOfInt FloatKind.f64 1 = 4607182418800017408 := by kernel_rfl
theorem half_f : floatBits .quo .f64 4607182418800017408 4611686018427387904 = some 4602678819172646912 := by kernel_rfl
theorem half_ne : (FloatKind.f64.format.order 4602678819172646912 0 != some Ordering.eq) = true := by kernel_rfl

theorem halves_float64 (w : World) : Calls Tryz.prog 131 #[] w fun e w' => e = .returned (.bool true) ∧ w' = w := by
  have g : ∀ w, (binOp .quo 65 (.float .f64 4607182418800017408) (.float .f64 4611686018427387904)).run Tryz.prog w = .ok (.float .f64 4602678819172646912) w := fun w => run_float_arith w .quo _ .f64 _ _ _ half_f
  have o := one_f
  have hn := half_ne
  go_enter Tryz.func131, Tryz.ntmps131
  go_wp2
  go_ret
  exact ⟨rfl, rfl⟩

theorem halves_real (w : World) : Calls Tryz.prog 133 #[] w fun e w' => e = .returned (.bool true) ∧ w' = w := by
  have g : ∀ w, (binOp .quo 117 (.float .f64 4607182418800017408) (.float .f64 4611686018427387904)).run Tryz.prog w = .ok (.float .f64 4602678819172646912) w := fun w => run_float_arith w .quo _ .f64 _ _ _ half_f
  have o := one_f
  have hn := half_ne
  go_enter Tryz.func133, Tryz.ntmps133
  go_wp2
  go_ret
  exact ⟨rfl, rfl⟩

theorem exact_int (x : Int) (w : World) (h1 : -9223372036854775808 ≤ x) (h2 : x < 9223372036854775808) :
    Calls Tryz.prog 72 #[.int .i64 x] w fun e w' => e = .returned (.tuple #[.agg #[.float .f64 (wholeLo x), .float .f64 (wholeHi x)], .nilIface]) ∧ Below w.heap.size w w' := by
  have HA : Hid (∀ w, Calls Tryz.prog 128 #[.int .i64 x] w fun e w' => e = .returned (.agg #[.float .f64 (wholeLo x), .float .f64 (wholeHi x)]) ∧ Below w.heap.size w w') := fun w => aroundWhole_any x w h1 h2
  have hw : wrap64 x = x := by unfold wrap64; omega
  clear h1 h2
  go_enter Tryz.func72, Tryz.ntmps72
  go_wp2_with fail
  refine (halves_int _).mono ?_
  rintro e w' ⟨rfl, rfl⟩
  go_wp2_with fail
  refine Calls.mono (HA.out _) ?_
  rintro e w1 ⟨rfl, hb1⟩
  have B0 := blk_below (blk_new w _) hb1
  obtain ⟨k0, k1, k2, k3⟩ := blk2 B0
  have HB1 : Hid (Below w.heap.size w w1) := ((Below.refl _ _).alloc (Nat.le_refl _) _).trans (hb1.mono (by simp))
  have HB0 : Hid (w1.heap[w.heap.size]? = _) := B0
  clear hb1 B0 HA
  go_wp2
  refine bodyPost_ret (v := .tuple #[.agg #[.float .f64 (wholeLo x), .float .f64 (wholeHi x)], .nilIface]) (by simp [results, Tryz.results72, go_sem, k0, k1]) rfl ?_
  exact ⟨rfl, (HB1.out.setCell (by simp) _).setCell (by simp) _⟩

theorem exact_int32 (x : Int) (w : World) (h1 : -9223372036854775808 ≤ x) (h2 : x < 9223372036854775808) :
    Calls Tryz.prog 73 #[.int .i32 x] w fun e w' => e = .returned (.tuple #[.agg #[.float .f64 (wholeLo x), .float .f64 (wholeHi x)], .nilIface]) ∧ Below w.heap.size w w' := by
  have HA : Hid (∀ w, Calls Tryz.prog 128 #[.int .i64 x] w fun e w' => e = .returned (.agg #[.float .f64 (wholeLo x), .float .f64 (wholeHi x)]) ∧ Below w.heap.size w w') := fun w => aroundWhole_any x w h1 h2
  have hw : wrap64 x = x := by unfold wrap64; omega
  clear h1 h2
  go_enter Tryz.func73, Tryz.ntmps73
  go_wp2_with fail
  refine (halves_int32 _).mono ?_
  rintro e w' ⟨rfl, rfl⟩
  go_wp2_with fail
  refine Calls.mono (HA.out _) ?_
  rintro e w1 ⟨rfl, hb1⟩
  have B0 := blk_below (blk_new w _) hb1
  obtain ⟨k0, k1, k2, k3⟩ := blk2 B0
  have HB1 : Hid (Below w.heap.size w w1) := ((Below.refl _ _).alloc (Nat.le_refl _) _).trans (hb1.mono (by simp))
  have HB0 : Hid (w1.heap[w.heap.size]? = _) := B0
  clear hb1 B0 HA
  go_wp2
  refine bodyPost_ret (v := .tuple #[.agg #[.float .f64 (wholeLo x), .float .f64 (wholeHi x)], .nilIface]) (by simp [results, Tryz.results73, go_sem, k0, k1]) rfl ?_
  exact ⟨rfl, (HB1.out.setCell (by simp) _).setCell (by simp) _⟩

theorem exact_int64 (x : Int) (w : World) (h1 : -9223372036854775808 ≤ x) (h2 : x < 9223372036854775808) :
    Calls Tryz.prog 74 #[.int .i64 x] w fun e w' => e = .returned (.tuple #[.agg #[.float .f64 (wholeLo x), .float .f64 (wholeHi x)], .nilIface]) ∧ Below w.heap.size w w' := by
  have HA : Hid (∀ w, Calls Tryz.prog 128 #[.int .i64 x] w fun e w' => e = .returned (.agg #[.float .f64 (wholeLo x), .float .f64 (wholeHi x)]) ∧ Below w.heap.size w w') := fun w => aroundWhole_any x w h1 h2
  have hw : wrap64 x = x := by unfold wrap64; omega
  clear h1 h2
  go_enter Tryz.func74, Tryz.ntmps74
  go_wp2_with fail
  refine (halves_int64 _).mono ?_
  rintro e w' ⟨rfl, rfl⟩
  go_wp2_with fail
  refine Calls.mono (HA.out _) ?_
  rintro e w1 ⟨rfl, hb1⟩
  have B0 := blk_below (blk_new w _) hb1
  obtain ⟨k0, k1, k2, k3⟩ := blk2 B0
  have HB1 : Hid (Below w.heap.size w w1) := ((Below.refl _ _).alloc (Nat.le_refl _) _).trans (hb1.mono (by simp))
  have HB0 : Hid (w1.heap[w.heap.size]? = _) := B0
  clear hb1 B0 HA
  go_wp2
  refine bodyPost_ret (v := .tuple #[.agg #[.float .f64 (wholeLo x), .float .f64 (wholeHi x)], .nilIface]) (by simp [results, Tryz.results74, go_sem, k0, k1]) rfl ?_
  exact ⟨rfl, (HB1.out.setCell (by simp) _).setCell (by simp) _⟩

theorem exact_small (x : Int) (w : World) (h1 : -9223372036854775808 ≤ x) (h2 : x < 9223372036854775808) :
    Calls Tryz.prog 76 #[.int .i32 x] w fun e w' => e = .returned (.tuple #[.agg #[.float .f64 (wholeLo x), .float .f64 (wholeHi x)], .nilIface]) ∧ Below w.heap.size w w' := by
  have HA : Hid (∀ w, Calls Tryz.prog 128 #[.int .i64 x] w fun e w' => e = .returned (.agg #[.float .f64 (wholeLo x), .float .f64 (wholeHi x)]) ∧ Below w.heap.size w w') := fun w => aroundWhole_any x w h1 h2
  have hw : wrap64 x = x := by unfold wrap64; omega
  clear h1 h2
  go_enter Tryz.func76, Tryz.ntmps76
  go_wp2_with fail
  refine (halves_small _).mono ?_
  rintro e w' ⟨rfl, rfl⟩
  go_wp2_with fail
  refine Calls.mono (HA.out _) ?_
  rintro e w1 ⟨rfl, hb1⟩
  have B0 := blk_below (blk_new w _) hb1
  obtain ⟨k0, k1, k2, k3⟩ := blk2 B0
  have HB1 : Hid (Below w.heap.size w w1) := ((Below.refl _ _).alloc (Nat.le_refl _) _).trans (hb1.mono (by simp))
  have HB0 : Hid (w1.heap[w.heap.size]? = _) := B0
  clear hb1 B0 HA
  go_wp2
  refine bodyPost_ret (v := .tuple #[.agg #[.float .f64 (wholeLo x), .float .f64 (wholeHi x)], .nilIface]) (by simp [results, Tryz.results76, go_sem, k0, k1]) rfl ?_
  exact ⟨rfl, (HB1.out.setCell (by simp) _).setCell (by simp) _⟩
end Go.Proofs.YtonhpkigoplmaaaGreatDoor
namespace Go.Proofs.YtonhpkigoplmaaaGreatDoor
open Go.RowKit Go.Extern Ieee
attribute [local go_sem] run_store_float

set_option maxHeartbeats 400000 in
theorem exact_float64 (A : Nat → Addr) (b : Nat) (w : World) (hb : b < 18446744073709551616) (hS : Sents A w) :
    Calls Tryz.prog 75 #[.float .f64 b] w fun e w' => MakeR A b b w e w' := by
  have HB : Hid (b < 18446744073709551616) := hb
  have HS : Hid (Sents A w) := hS
  clear hb hS
  go_enter Tryz.func75, Tryz.ntmps75
  go_wp2_with fail
  refine (halves_float64 _).mono ?_
  rintro e w' ⟨rfl, rfl⟩
  go_wp2_with fail
  refine (make_any A b b _ HB.out HB.out (HS.out.alloc _)).mono ?_
  rintro e w1 ⟨rfl, hb1⟩
  have B0 := blk_below (blk_new w _) hb1
  obtain ⟨k0, k1, k2, k3⟩ := blk2 B0
  have HB1 : Hid (Below w.heap.size w w1) := ((Below.refl _ _).alloc (Nat.le_refl _) _).trans (hb1.mono (by simp))
  clear hb1 B0 HS
  go_wp2
  refine bodyPost_ret (v := .tuple #[.agg #[.float .f64 (makeN b b).1, .float .f64 (makeN b b).2.1], errV A (makeN b b).2.2]) (by simp [results, Tryz.results75, go_sem, k0, k1]) rfl ?_
  exact ⟨rfl, (HB1.out.setCell (by simp) _).setCell (by simp) _⟩

set_option maxHeartbeats 400000 in
theorem exact_real (A : Nat → Addr) (b : Nat) (w : World) (hb : b < 18446744073709551616) (hS : Sents A w) :
    Calls Tryz.prog 77 #[.float .f64 b] w fun e w' => MakeR A b b w e w' := by
  have HB : Hid (b < 18446744073709551616) := hb
  have HS : Hid (Sents A w) := hS
  clear hb hS
  go_enter Tryz.func77, Tryz.ntmps77
  go_wp2_with fail
  refine (halves_real _).mono ?_
  rintro e w' ⟨rfl, rfl⟩
  go_wp2_with fail
  refine (make_any A b b _ HB.out HB.out (HS.out.alloc _)).mono ?_
  rintro e w1 ⟨rfl, hb1⟩
  have B0 := blk_below (blk_new w _) hb1
  obtain ⟨k0, k1, k2, k3⟩ := blk2 B0
  have HB1 : Hid (Below w.heap.size w w1) := ((Below.refl _ _).alloc (Nat.le_refl _) _).trans (hb1.mono (by simp))
  clear hb1 B0 HS
  go_wp2
  refine bodyPost_ret (v := .tuple #[.agg #[.float .f64 (makeN b b).1, .float .f64 (makeN b b).2.1], errV A (makeN b b).2.2]) (by simp [results, Tryz.results77, go_sem, k0, k1]) rfl ?_
  exact ⟨rfl, (HB1.out.setCell (by simp) _).setCell (by simp) _⟩
end Go.Proofs.YtonhpkigoplmaaaGreatDoor
