/-
  JdgK, SolW, JdgM, JdgL.
-/
import Derived.Test.YtonhpkigoplmaaaGreatDoorS13
import Derived.Test.YtonhpkigoplmaaaGreatDoorS14
import Derived.Test.YtonhpkigoplmaaaGreatDoorS16
import Derived.Test.YtonhpkigoplmaaaGreatDoorS06
import Derived.Test.YtonhpkigoplmaaaGreatDoorS15
import Derived.Test.YtonhpkigoplmaaaGreatDoorS11
namespace Go.Proofs.YtonhpkigoplmaaaGreatDoor
open Go.RowKit Go.Extern Ieee

theorem NBl.congr {b : Nat} {W : World} {v : Value} {n : Nat} {q q' : Nat → Bool × Nat × Int} {u : Nat → Value} (h : NBl b W v n q u) (e : ∀ k, k < n → q k = q' k) : NBl b W v n q' u :=
  ⟨by rw [← nvs_congr e (fun _ _ => rfl)]; exact h.own, fun j hj => by rw [← e j hj]; exact h.nat j hj⟩
theorem nsl_keeps {W W' : World} {v : Value} {n : Nat} (h : NSl W v n) (k : Keeps W W') : NSl W' v n := by
  obtain ⟨o, l, c, h1, h2, h3⟩ := h
  exact ⟨o, l, c, h1, h2, h3.keeps k⟩
theorem keeps_grown {W W' : World} {b s m : Nat} {T : TypeId} {u : Value} {xs : List Value} (ho : W.ownsRow b T s u m xs) (hg : W.grownBy W' u.ownBlock) (ht : T ≠ 3) : Keeps W W' := by
  intro g cur hh
  rw [hg.block g (lt_of_row hh) ?_]
  · exact hh
  · intro hu
    obtain ⟨-, c, e⟩ := own_block ho hu.symm
    rw [hh] at e
    cases e
    exact ht rfl
theorem NBl.grown {b b' s m : Nat} {W W' : World} {v x : Value} {n : Nat} {q : Nat → Bool × Nat × Int} {u : Nat → Value} {T : TypeId} {xs : List Value} (h : NBl b W v n q u) (ho : W.ownsRow b' T s x m xs) (hg : W.grownBy W' x.ownBlock) (t1 : T ≠ 92) (t2 : T ≠ 3) : NBl b W' v n q u :=
  ⟨own_grown h.own hg (fun _ hk hk' => own_ne h.own ho t1.symm hk hk'), fun j hj => nsl_keeps (h.nat j hj) (keeps_grown ho hg t2)⟩
/-- A row of numbers stays where another one grows. -/
theorem NRow.apart {W W' : World} {v u : Value} {n b s m : Nat} {xs : List Value} {q : Nat → Bool × Nat × Int} (h : NRow W v n q) (ho : W.ownsRow b 92 s u m xs) (hg : W.grownBy W' u.ownBlock) (hne : ∀ g, u.ownBlock = some g → v.ownBlock ≠ some g) : NRow W' v n q := by
  have k := keeps_grown ho hg (by decide)
  obtain ⟨ao, c, e, h⟩ := h
  refine ⟨ao, c, e, ?_⟩
  rcases h with h | ⟨g, cur, e2, hg', h⟩
  · exact .inl h
  · refine .inr ⟨g, cur, e2, ?_, fun j hj => ?_⟩
    · rw [hg.block g (lt_of_row hg') ?_]
      · exact hg'
      · intro hu
        refine hne g hu.symm ?_
        rw [e, e2]
        simp [Value.ownBlock]
    · obtain ⟨o, l, c, a1, a2, a3, a4, a5⟩ := h j hj
      exact ⟨o, l, c, a1, a2, a3, a4, a5.keeps k⟩
theorem NRow.blk {W : World} {v : Value} {n g : Nat} {q : Nat → Bool × Nat × Int} (h : NRow W v n q) (hn : n ≠ 0) (hg : v.ownBlock = some g) : g < W.heap.size := by
  obtain ⟨ao, c, e, h⟩ := h
  obtain ⟨g', cur, e2, hg', -⟩ := h.resolve_left hn
  rw [e, e2] at hg
  simp [Value.ownBlock] at hg
  subst hg
  exact lt_of_row hg'

/-- i rows and i numbers of the right side. -/
structure HdM (w wr : World) (n k i : Nat) (v10 v11 : Value) (hv u : Nat → Value) (Q : Nat → Nat → Bool × Nat × Int) (B : Nat → Bool × Nat × Int) : Prop where
  m : NMb w.heap.size wr v10 k n hv Q
  v : NBl w.heap.size wr v11 i B u
  sep : ∀ r, r < k → ∀ g, v11.ownBlock = some g → (hv r).ownBlock ≠ some g
  hb : Below w.heap.size w wr
theorem HdM.below {w wr W : World} {n k i : Nat} {v10 v11 : Value} {hv u : Nat → Value} {Q : Nat → Nat → Bool × Nat × Int} {B : Nat → Bool × Nat × Int} (s : HdM w wr n k i v10 v11 hv u Q B) (hb : Below wr.heap.size wr W) : HdM w W n k i v10 v11 hv u Q B :=
  ⟨s.m.below hb, s.v.below hb, s.sep, s.hb.trans (hb.mono s.hb.size)⟩
theorem NMb.congr {b : Nat} {W : World} {v : Value} {m n : Nat} {hv : Nat → Value} {Q Q' : Nat → Nat → Bool × Nat × Int} (h : NMb b W v m n hv Q) (e : ∀ i, i < m → Q i = Q' i) : NMb b W v m n hv Q' := ⟨h.own, fun i hi => by rw [← e i hi]; exact h.row i hi⟩
/-- One more row. -/
theorem HdM.row {w W W1 : World} {n i : Nat} {v10 v10' v11 r : Value} {hv u : Nat → Value} {Q : Nat → Nat → Bool × Nat × Int} {B : Nat → Bool × Nat × Int} {q : Nat → Bool × Nat × Int} {o : Obj} (s : HdM w W n i i v10 v11 hv u Q B) (hr : NRow W r n q) (hsep : ∀ g, v11.ownBlock = some g → r.ownBlock ≠ some g) (ho : W1.ownsRow w.heap.size 103 1 v10' (i + 1) ((List.range i).map hv ++ [r])) (hg : (W.alloc o).grownBy W1 v10.ownBlock) :
    HdM w W1 n (i + 1) i v10' v11 (fun k => if k = i then r else hv k) u (fun k => if k = i then q else Q k) B := by
  have ha : Below W.heap.size W (W.alloc o) := (Below.refl _ _).alloc (Nat.le_refl _) _
  have s := s.below ha
  have hr := hr.below ha
  have m1 := s.m.congr (Q' := fun k => if k = i then q else Q k) (fun j hj => by rw [if_neg (by omega)])
  refine ⟨m1.push (by rw [if_pos rfl]; exact hr) ho hg, s.v.grown s.m.own hg (by decide) (by decide), fun k hk g hgv => ?_, s.hb.grown hg s.hb.size (fun _ hk => (own_block s.m.own hk).1)⟩
  by_cases hki : k = i
  · rw [if_pos hki]; exact hsep g hgv
  · rw [if_neg hki]; exact s.sep k (by omega) g hgv
/-- One more number of the right side. -/
theorem HdM.num {w W W1 : World} {n i : Nat} {v10 v11 v11' : Value} {hv u : Nat → Value} {Q : Nat → Nat → Bool × Nat × Int} {B : Nat → Bool × Nat × Int} {q : Bool × Nat × Int} {yo : Option Addr} {yl yc : Nat} {o : Obj} (s : HdM w W n (i + 1) i v10 v11 hv u Q B) (hn : n ≠ 0) (hl : yl = (digits q.2.1).length) (hnat : NatV W (.slice yo yl yc) q.2.1)
    (ho : W1.ownsRow w.heap.size 92 3 v11' (i + 1) (nvs B u i ++ [.bool q.1, .slice yo yl yc, .int .i64 q.2.2])) (hg : (W.alloc o).grownBy W1 v11.ownBlock) (hbk : v11'.ownBlock = v11.ownBlock ∨ v11'.ownBlock = some (W.alloc o).heap.size) :
    ∃ u', HdM w W1 n (i + 1) (i + 1) v10 v11' hv u' Q (fun k => if k = i then q else B k) := by
  have ha : Below W.heap.size W (W.alloc o) := (Below.refl _ _).alloc (Nat.le_refl _) _
  have s := s.below ha
  have v1 := s.v.congr (q' := fun k => if k = i then q else B k) (fun j hj => by rw [if_neg (by omega)])
  refine ⟨_, ⟨own_grown s.m.own hg (fun _ hk hk' => own_ne s.m.own s.v.own (by decide) hk hk'), fun r hr => (s.m.row r hr).apart s.v.own hg (fun g hgv => s.sep r hr g hgv)⟩, v1.push (W0 := W.alloc o) (o := yo) (l := yl) (c := yc) (by rw [if_pos rfl]; exact hl) (by rw [if_pos rfl]; exact hnat.below ha (Nat.le_refl _)) ?_ hg (Below.refl _ _), fun r hr g hgv => ?_, s.hb.grown hg s.hb.size (fun _ hk => (own_block s.v.own hk).1)⟩
  · rw [if_pos rfl, nvs_congr (q' := B) (u' := u) (fun j hj => by rw [if_neg (by omega)]) (fun _ _ => rfl)]
    exact ho
  · rcases hbk with hbk | hbk
    · rw [hbk] at hgv; exact s.sep r hr g hgv
    · rw [hbk] at hgv
      cases hgv
      intro hc
      have := (s.m.row r hr).blk hn hc
      omega
theorem NBl.blk {b : Nat} {W : World} {v : Value} {n g : Nat} {q : Nat → Bool × Nat × Int} {u : Nat → Value} (h : NBl b W v n q u) (hg : v.ownBlock = some g) : b ≤ g ∧ g < W.heap.size := by
  obtain ⟨h1, c, e⟩ := own_block h.own hg
  exact ⟨h1, lt_of_row e⟩
theorem NBk.store_ne {W : World} {g g' : Nat} {x y : Bool × Nat × Int} {o yo : Option Addr} {l c yl yc : Nat} {a b e : Value} (h : NBk W g x o l c) (h' : NBk W g' y yo yl yc) (hne : g ≠ g') : NBk (((W.setCell ⟨g', 0, none⟩ a).setCell ⟨g', 1, none⟩ b).setCell ⟨g', 2, none⟩ e) g x o l c := ⟨blk_store3_ne h.blk hne, h.len, natV_store h.nat h'.blk⟩
theorem NBk.store {W : World} {g : Nat} {x y : Bool × Nat × Int} {o yo : Option Addr} {l c yl yc : Nat} (h : NBk W g x o l c) (hl : yl = (digits y.2.1).length) (hn : NatV W (.slice yo yl yc) y.2.1) : NBk (((W.setCell ⟨g, 0, none⟩ (.bool y.1)).setCell ⟨g, 1, none⟩ (.slice yo yl yc)).setCell ⟨g, 2, none⟩ (.int .i64 y.2.2)) g y yo yl yc := ⟨blk_store3 h.blk, hl, natV_store hn h.blk⟩
/-- The two ends change places. -/
theorem swap_mem {wr w : World} {gX gL gH : Nat} {x pl ph : Bool × Nat × Int} {xo lo_ ho_ : Option Addr} {xl xc ll lc hl hc : Nat} (B : Below wr.heap.size wr w) (KX : NBk w gX x xo xl xc) (KL : NBk w gL pl lo_ ll lc) (KH : NBk w gH ph ho_ hl hc) (hL : wr.heap.size ≤ gL) (hH : wr.heap.size ≤ gH) (n1 : gX ≠ gL) (n2 : gX ≠ gH) (n3 : gL ≠ gH) (X : Obj) (W : World)
    (e : W = ((((((w.setCell ⟨gL, 0, none⟩ (.bool ph.1)).setCell ⟨gL, 1, none⟩ (.slice ho_ hl hc)).setCell ⟨gL, 2, none⟩ (.int .i64 ph.2.2)).setCell ⟨gH, 0, none⟩ (.bool pl.1)).setCell ⟨gH, 1, none⟩ (.slice lo_ ll lc)).setCell ⟨gH, 2, none⟩ (.int .i64 pl.2.2)).alloc X) :
    NBk W gX x xo xl xc ∧ NBk W gL ph ho_ hl hc ∧ NBk W gH pl lo_ ll lc ∧ Below wr.heap.size wr W := by
  subst e
  have a1 := KL.store KH.len KH.nat
  have a2 := KH.store_ne (a := .bool ph.1) (b := .slice ho_ hl hc) (e := .int .i64 ph.2.2) KL n3.symm
  have a3 := KX.store_ne (a := .bool ph.1) (b := .slice ho_ hl hc) (e := .int .i64 ph.2.2) KL n1
  have a4 : NatV (((w.setCell ⟨gL, 0, none⟩ (.bool ph.1)).setCell ⟨gL, 1, none⟩ (.slice ho_ hl hc)).setCell ⟨gL, 2, none⟩ (.int .i64 ph.2.2)) (.slice lo_ ll lc) pl.2.1 := natV_store KL.nat KL.blk
  have b1 := a1.store_ne (a := .bool pl.1) (b := .slice lo_ ll lc) (e := .int .i64 pl.2.2) a2 n3
  have b2 := a2.store KL.len a4
  have b3 := a3.store_ne (a := .bool pl.1) (b := .slice lo_ ll lc) (e := .int .i64 pl.2.2) a2 n2
  have hB : Below wr.heap.size wr ((((((w.setCell ⟨gL, 0, none⟩ (.bool ph.1)).setCell ⟨gL, 1, none⟩ (.slice ho_ hl hc)).setCell ⟨gL, 2, none⟩ (.int .i64 ph.2.2)).setCell ⟨gH, 0, none⟩ (.bool pl.1)).setCell ⟨gH, 1, none⟩ (.slice lo_ ll lc)).setCell ⟨gH, 2, none⟩ (.int .i64 pl.2.2)) := (((((B.setCell (by exact hL) _).setCell (by exact hL) _).setCell (by exact hL) _).setCell (by exact hH) _).setCell (by exact hH) _).setCell (by exact hH) _
  have ha := (Below.refl (((((((w.setCell ⟨gL, 0, none⟩ (.bool ph.1)).setCell ⟨gL, 1, none⟩ (.slice ho_ hl hc)).setCell ⟨gL, 2, none⟩ (.int .i64 ph.2.2)).setCell ⟨gH, 0, none⟩ (.bool pl.1)).setCell ⟨gH, 1, none⟩ (.slice lo_ ll lc)).setCell ⟨gH, 2, none⟩ (.int .i64 pl.2.2)).heap.size) _).alloc (Nat.le_refl _) X
  exact ⟨b3.below ha, b1.below ha, b2.below ha, hB.alloc hB.size _⟩
end Go.Proofs.YtonhpkigoplmaaaGreatDoor
namespace Go.Proofs.YtonhpkigoplmaaaGreatDoor

theorem huge_pw : huge = pw 200 := by
  have h := pw_nat 200
  rw [show ((200 : Nat) : Int) = 200 by rfl] at h
  rw [h]
  unfold huge
  rw [show (2 ^ 200 : Nat) = 1606938044258990275541962092341162602522202993782792835301376 by decide]
  rfl
theorem huge_big : huge ≤ pw 899 := by rw [huge_pw]; exact pw_le (by omega)
theorem eps_pw : eps * pw 52 = 1 := by
  have h := pw_nat 52
  rw [show ((52 : Nat) : Int) = 52 by rfl] at h
  rw [h, show (2 ^ 52 : Nat) = 4503599627370496 by decide]
  unfold eps
  grind
theorem tiny_huge : tiny * huge = 1 := by
  unfold tiny huge
  grind
theorem small_eta : pw (-900) ≤ eps * tiny := by
  have h1 := pw_le (a := -900) (b := -252) (by omega)
  have h2 := pw_add (-252) 252
  have h3 := pw_add 52 200
  rw [show (-252 : Int) + 252 = 0 by rfl, pw_zero] at h2
  rw [show (52 : Int) + 200 = 252 by rfl, ← huge_pw] at h3
  have h4 := eps_pw
  have h5 := tiny_huge
  have h6 : pw (-252) = eps * tiny := by
    have e1 : pw (-252) = pw (-252) * ((eps * pw 52) * (tiny * huge)) := by rw [h4, h5]; grind
    have e2 : pw (-252) * ((eps * pw 52) * (tiny * huge)) = (pw (-252) * pw 252) * (eps * tiny) := by rw [h3]; grind
    rw [e1, e2, ← h2]; grind
  rw [← h6]; exact h1

theorem solveW_near {n : Nat} (hn : n ≤ 4) {M : Nat → Nat → Nat × Nat} {z : Nat → Nat × Nat} {R : Nat → Nat → Rat} {V : Rat} (hV : V = 0 ∨ 16 * vLow ≤ V) (hV2 : 16 * V ≤ vHigh)
    (oks : ∀ i j, i < n → j ≤ n → ivW (M i j)) (pts : ∀ i j, i < n → j ≤ n → loW (M i j) = R i j ∧ hiW (M i j) = R i j) (low : ∀ i, i < n → 1 / 1073741824 ≤ ab (R i i)) (high : ∀ i, i < n → ab (R i i) ≤ 1073741824)
    (dom : ∀ i, i < n → sumR n (fun j => ab (R i j)) ≤ 5 / 4 * ab (R i i)) (rb : ∀ i, i < n → bd (ab (R i i) * V) (R i n)) :
    ∃ g, solveX muX suX quX pvX n M z = some g ∧ ∀ i, i < n → ivW (g i) ∧ hiW (g i) - loW (g i) ≤ V / 2147483648 :=
  solveX_near near hn hV hV2 small_eta huge_big oks pts low high dom rb
end Go.Proofs.YtonhpkigoplmaaaGreatDoor
namespace Go.Proofs.YtonhpkigoplmaaaGreatDoor
open Go.RowKit Go.Extern Ieee

theorem val_30a : valW 4472074429978902528 = pw (-30) := by
  have h : plT 4472074429978902528 = (false, 4503599627370496, -82) := rfl
  unfold valW
  rw [h]
  have h2 := pw_nat 52
  rw [show ((52 : Nat) : Int) = 52 by rfl, show (2 ^ 52 : Nat) = 4503599627370496 by decide] at h2
  have h3 := pw_add 52 (-82)
  rw [show (52 : Int) + -82 = -30 by rfl] at h3
  rw [h3, h2]
  unfold valQ sg
  simp only [Bool.false_eq_true, if_false]
  rw [Rat.intCast_natCast]
theorem val_30b : valW 4742290407621132288 = pw 30 := by
  have h : plT 4742290407621132288 = (false, 4503599627370496, -22) := rfl
  unfold valW
  rw [h]
  have h2 := pw_nat 52
  rw [show ((52 : Nat) : Int) = 52 by rfl, show (2 ^ 52 : Nat) = 4503599627370496 by decide] at h2
  have h3 := pw_add 52 (-22)
  rw [show (52 : Int) + -22 = 30 by rfl] at h3
  rw [h3, h2]
  unfold valQ sg
  simp only [Bool.false_eq_true, if_false]
  rw [Rat.intCast_natCast]

theorem reach_fair {x : Nat} (hx : x < 18446744073709551616) (hp : plainN x = some (plT x)) : reachW x = fairT (plT x) := by
  obtain ⟨h1, h2⟩ := abs_plain hx hp
  have q1 := plA_le (x := 4472074429978902528) (y := absW x) (by unfold PlA; omega) h1
  have q2 := plA_le (x := absW x) (y := 4742290407621132288) h1 (by unfold PlA; omega)
  have q3 := plA_le (x := absW x) (y := 0) h1 (by unfold PlA; omega)
  rw [h2, val_30a] at q1
  rw [h2, val_30b] at q2
  rw [h2, show valW 0 = 0 from val_zero rfl] at q3
  unfold reachW fairT
  rw [show valQ (plT x) = valW x from rfl]
  have e3 : absW x = 0 ↔ valW x = 0 := by
    constructor
    · intro h
      have := q3.2 (by omega)
      rcases ab_cases (valW x) with ⟨_, _⟩ | ⟨_, _⟩ <;> grind
    · intro h
      have := q3.1 (by rw [h, ab_zero]; grind)
      omega
  rw [decide_eq_decide.2 e3, decide_eq_decide.2 q1, decide_eq_decide.2 q2]

theorem held_fact {n : Nat} (hn : n ≤ 4) {M : Nat → Nat → Nat × Nat} {z g : Nat → Nat × Nat} {R : Nat → Nat → Rat} (h : solveX muX suX quX pvX n M z = some g) (iv : ∀ y x, y < n → x ≤ n → ivW (M y x)) (mem : ∀ y x, y < n → x ≤ n → memW (M y x) (R y x)) :
    detR n R ≠ 0 ∧ ∀ i, i < n → ivW (g i) ∧ memW (g i) (detR n (colR R (fun y => R y n) i) / detR n R) := by
  have := solveX_mem holding hn h (fun y x hy hx => ⟨iv y x hy hx, mem y x hy hx⟩)
  exact ⟨this.1, fun i hi => this.2 i hi⟩

theorem scaled {lo hi x d : Rat} (hd : d ≠ 0) (h1 : lo ≤ x / d) (h2 : x / d ≤ hi) : (0 < d → lo * d ≤ x ∧ x ≤ hi * d) ∧ (d < 0 → hi * d ≤ x ∧ x ≤ lo * d) := by
  have e : x / d * d = x := by rw [Rat.div_def, Rat.mul_assoc, Rat.inv_mul_cancel _ hd, Rat.mul_one]
  generalize x / d = t at *
  constructor
  · intro hp
    have a := mul_le_r (Rat.le_of_lt hp) h1
    have b := mul_le_r (Rat.le_of_lt hp) h2
    grind
  · intro hp
    have hp' : (0 : Rat) ≤ -d := by grind
    have a := mul_le_r hp' h1
    have b := mul_le_r hp' h2
    grind

def maxR : Nat → (Nat → Rat) → Rat
  | 0, _ => 0
  | n + 1, f => if maxR n f ≤ f n then f n else maxR n f
theorem maxR_ge {f : Nat → Rat} : ∀ {n i : Nat}, i < n → f i ≤ maxR n f
  | 0, i, h => by omega
  | n + 1, i, h => by
    unfold maxR
    by_cases hi : i = n
    · subst hi
      split <;> grind
    · have := maxR_ge (f := f) (n := n) (i := i) (by omega)
      split <;> grind
theorem maxR_pick {f : Nat → Rat} : ∀ n : Nat, maxR n f = 0 ∨ ∃ i, i < n ∧ maxR n f = f i
  | 0 => .inl rfl
  | n + 1 => by
    unfold maxR
    split
    · exact .inr ⟨n, by omega, rfl⟩
    · rcases maxR_pick (f := f) n with h | ⟨i, hi, h⟩
      · exact .inl h
      · exact .inr ⟨i, by omega, h⟩

theorem sumR_ab (n : Nat) (f : Nat → Rat) : ab (sumR n f) ≤ sumR n (fun j => ab (f j)) := by
  induction n with
  | zero => show ab 0 ≤ 0; rw [ab_zero]; grind
  | succ n ih =>
    show ab (sumR n f + f n) ≤ sumR n (fun j => ab (f j)) + ab (f n)
    have := ab_le (bd_add (bd_ab (sumR n f)) (bd_ab (f n)))
    grind
theorem sumR_le {n : Nat} {f g : Nat → Rat} (h : ∀ j, j < n → f j ≤ g j) : sumR n f ≤ sumR n g := by
  induction n with
  | zero => show (0 : Rat) ≤ 0; grind
  | succ n ih =>
    have h1 := ih fun j hj => h j (by omega)
    have h2 := h n (by omega)
    show sumR n f + f n ≤ sumR n g + g n
    grind
theorem sumR_mul (n : Nat) (f : Nat → Rat) (c : Rat) : sumR n (fun j => f j * c) = sumR n f * c := by
  induction n with
  | zero => show (0 : Rat) = 0 * c; grind
  | succ n ih =>
    show sumR n (fun j => f j * c) + f n * c = (sumR n f + f n) * c
    rw [ih]; grind

theorem div_mul_self {x d : Rat} (hd : d ≠ 0) : x / d * d = x := by rw [Rat.div_def, Rat.mul_assoc, Rat.inv_mul_cancel _ hd, Rat.mul_one]

/-- Cramer, divided. -/
theorem cramer {n : Nat} (hn : n ≤ 4) (R : Nat → Nat → Rat) (h0 : detR n R ≠ 0) (i : Nat) (hi : i < n) : sumR n (fun j => R i j * (detR n (colR R (fun y => R y n) j) / detR n R)) = R i n := by
  have h := det_solves hn R (fun y => R y n) i hi
  have e : sumR n (fun j => R i j * (detR n (colR R (fun y => R y n) j) / detR n R)) * detR n R = R i n * detR n R := by
    rw [← h, ← sumR_mul]
    apply sumR_congr
    intro j hj
    have := div_mul_self (x := detR n (colR R (fun y => R y n) j)) h0
    generalize detR n (colR R (fun y => R y n) j) / detR n R = t at *
    rw [← this]; grind
  generalize sumR n (fun j => R i j * (detR n (colR R (fun y => R y n) j) / detR n R)) = S at *
  generalize detR n R = d at *
  have e2 : (S - R i n) * d = 0 := by grind
  rcases Rat.mul_eq_zero.1 e2 with h | h
  · grind
  · exact absurd h h0

theorem div_le_of {x y c : Rat} (hy : 0 < y) (h : x ≤ c * y) : x / y ≤ c := by
  have e := div_mul_self (x := x) (d := y) (by grind)
  generalize x / y = t at *
  exact le_cancel hy (by rw [e]; exact h)
theorem le_div_of {x y c : Rat} (hy : 0 < y) (h : c * y ≤ x) : c ≤ x / y := by
  have e := div_mul_self (x := x) (d := y) (by grind)
  generalize x / y = t at *
  exact le_cancel hy (by rw [e]; exact h)

def FairR (q : Rat) : Prop := q = 0 ∨ (1 / 1073741824 ≤ ab q ∧ ab q ≤ 1073741824)

theorem narrow_fact {n : Nat} (hn : n ≤ 4) {M : Nat → Nat → Nat × Nat} {z : Nat → Nat × Nat} {R : Nat → Nat → Rat} (iv : ∀ i j, i < n → j ≤ n → ivW (M i j)) (pts : ∀ i j, i < n → j ≤ n → loW (M i j) = R i j ∧ hiW (M i j) = R i j)
    (fa : ∀ i j, i < n → j ≤ n → FairR (R i j)) (nz : ∀ i, i < n → R i i ≠ 0) (dom : ∀ i, i < n → sumR n (fun j => ab (R i j)) ≤ 5 / 4 * ab (R i i)) :
    ∃ g, solveX muX suX quX pvX n M z = some g ∧ ∀ G : Rat, (∀ j, j < n → ab (valW (g j).1) ≤ G ∧ ab (valW (g j).2) ≤ G) → ∀ i, i < n → valW (g i).2 - valW (g i).1 ≤ G / 1073741824 := by
  have dg : ∀ i, i < n → 1 / 1073741824 ≤ ab (R i i) ∧ ab (R i i) ≤ 1073741824 := fun i hi => (fa i i hi (by omega)).resolve_left (nz i hi)
  have dp : ∀ i, i < n → 0 < ab (R i i) := fun i hi => by have := (dg i hi).1; grind
  have r0 : ∀ i, i < n → ab (R i n) ≤ 1073741824 := fun i hi => by
    rcases fa i n hi (Nat.le_refl _) with h | h
    · rw [h, ab_zero]; grind
    · exact h.2
  generalize hV : maxR n (fun i => ab (R i n) / ab (R i i)) = V
  have ge : ∀ i, i < n → ab (R i n) ≤ V * ab (R i i) := fun i hi => by
    have h1 : ab (R i n) / ab (R i i) ≤ V := by rw [← hV]; exact maxR_ge (f := fun i => ab (R i n) / ab (R i i)) hi
    have h2 := mul_le_r (Rat.le_of_lt (dp i hi)) h1
    rw [div_mul_self (by have := dp i hi; grind)] at h2
    exact h2
  have pick : V = 0 ∨ ∃ i, i < n ∧ V * ab (R i i) = ab (R i n) ∧ 1 / 1152921504606846976 ≤ V ∧ V ≤ 1152921504606846976 := by
    rcases maxR_pick (f := fun i => ab (R i n) / ab (R i i)) n with h | ⟨i, hi, h⟩
    · exact .inl (by rw [← hV, h])
    · rw [hV] at h
      have e := div_mul_self (x := ab (R i n)) (d := ab (R i i)) (by have := dp i hi; grind)
      rw [← h] at e
      rcases fa i n hi (Nat.le_refl _) with h0 | ⟨h1, h2⟩
      · rw [h0, ab_zero] at h
        left
        rw [h, Rat.div_def, Rat.zero_mul]
      · right
        refine ⟨i, hi, e, ?_, ?_⟩
        · rw [h]
          refine le_div_of (dp i hi) ?_
          have := (dg i hi).2
          grind
        · rw [h]
          refine div_le_of (dp i hi) ?_
          have := (dg i hi).1
          grind
  obtain ⟨g, hg, hw⟩ := solveW_near (z := z) hn (V := V) (M := M) (R := R) (by
      rcases pick with h | ⟨_, _, _, h, _⟩
      · exact .inl h
      · right; unfold vLow; grind) (by
      unfold vHigh
      rcases pick with h | ⟨_, _, _, _, h⟩
      · rw [h]; grind
      · grind) iv pts (fun i hi => (dg i hi).1) (fun i hi => (dg i hi).2) dom (fun i hi => bd_of_ab (by have := ge i hi; grind))
  refine ⟨g, hg, fun G hG i hi => ?_⟩
  obtain ⟨d0, hm⟩ := held_fact hn (R := R) hg iv (fun y x hy hx => by
    obtain ⟨a, b⟩ := pts y x hy hx
    unfold memW
    unfold loW at a
    unfold hiW at b
    rw [a, b]; exact ⟨by grind, by grind⟩)
  have hG0 : 0 ≤ G := by
    have h1 := (hG 0 (by omega)).1
    have h2 := ab_nonneg (valW (g 0).1)
    grind
  have hx : ∀ j, j < n → ab (detR n (colR R (fun y => R y n) j) / detR n R) ≤ G := fun j hj => by
    obtain ⟨-, a, b⟩ := hm j hj
    obtain ⟨c, d⟩ := hG j hj
    refine ab_le ⟨?_, ?_⟩
    · have := (bd_of_ab c).1; grind
    · have := (bd_of_ab d).2; grind
  have hVG : V ≤ 5 / 4 * G := by
    rcases pick with h | ⟨k, hk, h, -, -⟩
    · rw [h]; grind
    · have c := cramer hn R d0 k hk
      have a := sumR_ab n (fun j => R k j * (detR n (colR R (fun y => R y n) j) / detR n R))
      rw [c] at a
      have b : sumR n (fun j => ab (R k j * (detR n (colR R (fun y => R y n) j) / detR n R))) ≤ sumR n (fun j => ab (R k j) * G) := sumR_le fun j hj => by
        rw [ab_mul]
        have := mul_le_r (ab_nonneg (R k j)) (hx j hj)
        grind
      rw [sumR_mul] at b
      have e := mul_le_r hG0 (dom k hk)
      have f : V * ab (R k k) ≤ 5 / 4 * G * ab (R k k) := by grind
      exact le_cancel (dp k hk) f
  have h1 := (hw i hi).2
  unfold hiW loW at h1
  grind
end Go.Proofs.YtonhpkigoplmaaaGreatDoor
namespace Go.Proofs.YtonhpkigoplmaaaGreatDoor
open Go.RowKit Go.Extern Ieee

/-- The numbers of the rows and of the right side are chosen out of the boxes. -/
structure ChM (n : Nat) (xs ys : Nat → Nat × Nat) (i : Nat) (Q : Nat → Nat → Bool × Nat × Int) (B : Nat → Bool × Nat × Int) : Prop where
  q : ∀ r j, r < i → j < n → Cho (xs (n * r + j)).1 (xs (n * r + j)).2 (Q r j)
  b : ∀ r, r < i → Cho (ys r).1 (ys r).2 (B r)
theorem ChM.step {n : Nat} {xs ys : Nat → Nat × Nat} {i : Nat} {Q : Nat → Nat → Bool × Nat × Int} {B : Nat → Bool × Nat × Int} {q : Nat → Bool × Nat × Int} {y : Bool × Nat × Int} (h : ChM n xs ys i Q B) (hq : ∀ j, j < n → Cho (xs (n * i + j)).1 (xs (n * i + j)).2 (q j)) (hy : Cho (ys i).1 (ys i).2 y) : ChM n xs ys (i + 1) (fun k => if k = i then q else Q k) (fun k => if k = i then y else B k) := by
  refine ⟨fun r j hr hj => ?_, fun r hr => ?_⟩
  · by_cases hri : r = i
    · subst hri; rw [if_pos rfl]; exact hq j hj
    · rw [if_neg hri]; exact h.q r j (by omega) hj
  · by_cases hri : r = i
    · subst hri; rw [if_pos rfl]; exact hy
    · rw [if_neg hri]; exact h.b r (by omega)

/-- What is asked of the answer. -/
def HldP (n : Nat) (xs ys zs : Nat → Nat × Nat) : Prop := ∀ R : Nat → Nat → Rat, (∀ y x, y < n → x < n → memW (xs (n * y + x)) (R y x)) → (∀ y, y < n → memW (ys y) (R y n)) → detR n R ≠ 0 ∧ ∀ i, i < n → memW (zs i) (detR n (colR R (fun y => R y n) i) / detR n R)

/-- The system's numbers, the right side behind each row. -/
def sysR (n : Nat) (Q : Nat → Nat → Bool × Nat × Int) (B : Nat → Bool × Nat × Int) (y x : Nat) : Rat := if x < n then valQ (Q y x) else valQ (B y)
theorem sys_det {n : Nat} (Q : Nat → Nat → Bool × Nat × Int) (B : Nat → Bool × Nat × Int) : detR n (fun i k => valQ (Q i k)) = detR n (sysR n Q B) := detR_congr n fun i j _ hj => by unfold sysR; rw [if_pos hj]
theorem sys_col {n : Nat} (Q : Nat → Nat → Bool × Nat × Int) (B : Nat → Bool × Nat × Int) (c : Nat) : detR n (fun i k => valQ (entQ Q B (c : Int) i k)) = detR n (colR (sysR n Q B) (fun y => sysR n Q B y n) c) := detR_congr n fun i j _ hj => by
  unfold entQ colR sysR
  by_cases h : j = c
  · rw [if_pos (by omega), if_pos h]
    show _ = if n < n then valQ (Q i n) else valQ (B i)
    rw [if_neg (Nat.lt_irrefl _)]
  · rw [if_neg (by omega), if_neg h, if_pos hj]
theorem sys_held {n : Nat} {xs ys zs : Nat → Nat × Nat} {Q : Nat → Nat → Bool × Nat × Int} {B : Nat → Bool × Nat × Int} (h : ChM n xs ys n Q B) (hH : HldP n xs ys zs) : detR n (sysR n Q B) ≠ 0 ∧ ∀ i, i < n → memW (zs i) (detR n (colR (sysR n Q B) (fun y => sysR n Q B y n) i) / detR n (sysR n Q B)) := by
  refine hH (sysR n Q B) (fun y x hy hx => ?_) (fun y hy => ?_)
  · have c := h.q y x hy hx
    unfold sysR
    rw [if_pos hx]
    exact ⟨c.l, c.u⟩
  · have c := h.b y hy
    unfold sysR
    rw [if_neg (Nat.lt_irrefl _)]
    exact ⟨c.l, c.u⟩
/-- The two products, and what lies between them. -/
theorem between {lo hi x d : Bool × Nat × Int} (hd : valQ d ≠ 0) (h1 : valQ lo ≤ valQ x / valQ d) (h2 : valQ x / valQ d ≤ valQ hi) : (0 ≤ sgnI d.1 d.2.1 → lessT x (prodN lo d) = false ∧ lessT (prodN hi d) x = false) ∧ (sgnI d.1 d.2.1 < 0 → lessT x (prodN hi d) = false ∧ lessT (prodN lo d) x = false) := by
  have key : ∀ a b : Bool × Nat × Int, valQ b ≤ valQ a → lessT a b = false := fun a b h => by
    cases hl : lessT a b with
    | false => rfl
    | true => have := (less_val _ _).1 hl; grind
  obtain ⟨s1, s2⟩ := scaled hd h1 h2
  have sg := (sgn_val d).2
  constructor
  · intro h
    have hp : 0 < valQ d := by have := sg.1 h; grind
    obtain ⟨a, b⟩ := s1 hp
    exact ⟨key _ _ (by rw [val_prod]; exact a), key _ _ (by rw [val_prod]; exact b)⟩
  · intro h
    have hp : valQ d < 0 := by
      apply Decidable.byContradiction
      intro hc
      have := sg.2 (by grind)
      omega
    obtain ⟨a, b⟩ := s2 hp
    exact ⟨key _ _ (by rw [val_prod]; exact a), key _ _ (by rw [val_prod]; exact b)⟩

set_option maxHeartbeats 16000000 in
set_option maxRecDepth 100000 in
theorem held_any (ao bo oo : Option Addr) (n na ac bc oc : Nat) (xs ys zs : Nat → Nat × Nat) (pick : Int) (w : World) (hx : BxV w ao na xs) (hy : BxV w bo n ys) (hz : BxV w oo n zs) (hna : na = n * n) (hn0 : n ≠ 0) (hn : n ≤ 4) (ix : Ivs na xs) (iy : Ivs n ys) (iz : Ivs n zs) (hH : HldP n xs ys zs) :
    Calls Tryz.prog 139 #[.slice ao na ac, .slice bo n bc, .slice oo n oc, .int .i64 pick] w fun e w' => e = .returned (.bool true) ∧ Below w.heap.size w w' := by
  obtain ⟨i0, hI0, hy0, hy1, hy2⟩ := info_parts infoNum
  obtain ⟨i1, hI1, hz0, hz1, hz2⟩ := info_parts infoNumS
  have HX := hid hx
  have HY := hid hy
  have HZ := hid hz
  have IX := hid ix
  have IY := hid iy
  have IZ := hid iz
  have HH := hid hH
  have HNA := hid hna
  clear hx hy hz ix iy iz hH hna
  go_enter Tryz.func139, Tryz.ntmps139
  go_wp2
  go_loopw [10, 11, 12] (fun v10 v11 x wr => ∃ (i : Nat) (hv u : Nat → Value) (Q : Nat → Nat → Bool × Nat × Int) (B : Nat → Bool × Nat × Int), i ≤ n ∧ x = .int .i64 (i : Int) ∧ HdM w wr n i i v10 v11 hv u Q B ∧ ChM n xs ys i Q B) (fun _ _ x _ => n - (intOf x).toNat)
  case atStart => exact ⟨0, fun _ => .slice none 0 0, fun _ => .slice none 0 0, fun _ _ => (false, 0, 0), fun _ => (false, 0, 0), Nat.zero_le _, rfl, ⟨NMb.nil _ _ _ _ _, NBl.nil _ _ _ _, fun r hr => by omega, Below.refl _ _⟩, ⟨fun r j hr => by omega, fun r hr => by omega⟩⟩
  case round =>
    obtain ⟨i, hv, u, Q, B, hi1, rfl, hm, hc⟩ := hrel
    have HM := hid hm
    have CM := hid hc
    clear hm hc
    obtain ⟨w3, rfl⟩ : ∃ w3, w3 = wr := ⟨_, rfl⟩
    by_cases hi : i < n
    · have gi : decide ((i : Int) < (n : Int)) = true := decide_eq_true (by omega)
      go_wp2_with fail
      go_loopw [13, 14] (fun v x wy => ∃ (j : Nat) (q : Nat → Bool × Nat × Int) (uu : Nat → Value), j ≤ n ∧ x = .int .i64 (j : Int) ∧ NBl w3.heap.size wy v j q uu ∧ (∀ k, k < j → Cho (xs (n * i + k)).1 (xs (n * i + k)).2 (q k)) ∧ Below w3.heap.size w3 wy) (fun _ x _ => n - (intOf x).toNat)
      case atStart => exact ⟨0, fun _ => (false, 0, 0), fun _ => .slice none 0 0, Nat.zero_le _, rfl, NBl.nil _ _ _ _, (fun k hk => by omega), Below.refl _ _⟩
      case round =>
        obtain ⟨j, q, uu, hj1, rfl, hnb, hch, hb⟩ := hrel
        have NL := hid hnb
        have CH := hid hch
        have B4 := hid hb
        clear hnb hch hb
        obtain ⟨w4, rfl⟩ : ∃ w4, w4 = wr := ⟨_, rfl⟩
        by_cases hj : j < n
        · have hidx : n * i + j < na := by
            have : n * (i + 1) ≤ n * n := Nat.mul_le_mul_left n (by omega)
            have := HNA.out
            have h3 : n * (i + 1) = n * i + n := Nat.mul_succ n i
            omega
          have hbw : Below w.heap.size w w4 := HM.out.hb.trans (B4.out.mono HM.out.hb.size)
          obtain ⟨ga, offa, rfl, hga, hca⟩ := HX.out.resolve_left (by omega)
          obtain ⟨a1, a2⟩ := hca _ hidx
          rw [← hbw.cell (by exact hga)] at a1 a2
          have hgl : ga < w4.heap.size := Nat.lt_of_lt_of_le hga hbw.size
          have HC := hid (fun (p : Int) (W : World) => chosen_any (xs (n * i + j)).1 (xs (n * i + j)).2 (IX.out _ hidx) p W)
          have hmul : (n : Int) * (i : Int) = ((n * i : Nat) : Int) := by simp
          have hni : n * i ≤ 16 := Nat.mul_le_mul hn (by omega : i ≤ 4)
          have CN : Hid (∀ q', Cho (xs (n * i + j)).1 (xs (n * i + j)).2 q' → ∀ k, k < j + 1 → Cho (xs (n * i + k)).1 (xs (n * i + k)).2 ((fun k => if k = j then q' else q k) k)) := fun q' h k hk => by
            by_cases hkj : k = j
            · subst hkj; show Cho _ _ (if k = k then q' else q k); rw [if_pos rfl]; exact h
            · show Cho _ _ (if k = j then q' else q k); rw [if_neg hkj]; exact CH.out k (by omega)
          generalize xs (n * i + j) = pt at *
          generalize n * i = ni at *
          obtain ⟨p1, p2⟩ := pt
          simp only at a1 a2 HC CN
          have hw1 : IntKind.i64.wrap ((ni : Nat) : Int) = (ni : Int) := by rw [IntKind.wrap_i64]; omega
          have hw2 : IntKind.i64.wrap ((ni : Int) + (j : Int)) = (ni : Int) + (j : Int) := by rw [IntKind.wrap_i64]; omega
          have hw3 : IntKind.i64.wrap (2 * ((ni : Int) + (j : Int))) = 2 * ((ni : Int) + (j : Int)) := by rw [IntKind.wrap_i64]; omega
          have hx1 : 0 ≤ (ni : Int) + (j : Int) ∧ (ni : Int) + (j : Int) < (na : Int) := by omega
          have hx2 : ni + j < na := hidx
          have htn : ((ni : Int) + (j : Int)).toNat = ni + j := by omega
          clear hca hga CH hbw
          have HCL : Hid (∀ W : World, Below w4.heap.size w4 W → W.cell? ⟨ga, offa + (ni + j) * 2, none⟩ = some (.int .u64 (p1 : Int)) ∧ W.cell? ⟨ga, offa + (ni + j) * 2 + 1, none⟩ = some (.int .u64 (p2 : Int))) := fun W hW => ⟨by rw [hW.cell (by exact hgl)]; exact a1, by rw [hW.cell (by exact hgl)]; exact a2⟩
          go_wp2_with fail
          go_cut [15] (fun s15 wc => ∃ (gx : Nat) (q' : Bool × Nat × Int) (o : Option Addr) (l c : Nat), s15 = .pointer (some ⟨gx, 0, none⟩) ∧ NBk wc gx q' o l c ∧ Cho p1 p2 q' ∧ Below w4.heap.size w4 wc)
          case first =>
            have iN : Hid (Below w4.heap.size w4 w4.drew) := (Below.refl _ _).drew
            clear CN NL CM HM HX HY HZ IX IY IZ HH
            go_region_held3 (fun W => W.cell? ⟨ga, offa + (ni + j) * 2, none⟩ = some (.int .u64 (p1 : Int)) ∧ W.cell? ⟨ga, offa + (ni + j) * 2 + 1, none⟩ = some (.int .u64 (p2 : Int))) (first | with_reducible exact HCL.out _ iN.out | exact HCL.out _ (iN.out.alloc iN.out.size _) | exact HCL.out _ (((iN.out.setCell (Nat.le_refl _) _).setCell (Nat.le_refl _) _).setCell (Nat.le_refl _) _))
              (first
                | (go_at_call 170; with_reducible (refine Calls.mono (HC.out _ _) ?_); rintro e v0 ⟨q', o', l', c', rfl, hl', hn', hch', hbk⟩
                   have iN := hid (iN.out.trans (hbk.mono iN.out.size))
                   have CQ := hid hch'
                   have LQ := hid hl'
                   have NQ := hid hn'
                   clear hbk hch' hl' hn')
                | (go_at_call 170; with_reducible (refine Calls.mono (HC.out _ _) ?_); rintro e v0 ⟨q', o', l', c', rfl, hl', hn', hch', hbk⟩
                   have KZ := hid (blk_below (w := (w4.alloc (Obj.cells #[.bool false, .slice none 0 0, .int .i64 0] 92)).drew) (blk_new w4 (Obj.cells #[.bool false, .slice none 0 0, .int .i64 0] 92)) hbk)
                   have iM : Hid (Below w4.heap.size w4 (w4.alloc (Obj.cells #[.bool false, .slice none 0 0, .int .i64 0] 92)).drew) := ((Below.refl _ _).alloc (Nat.le_refl _) _).drew
                   have iN := hid (iM.out.trans (hbk.mono iM.out.size))
                   have CQ := hid hch'
                   have LQ := hid hl'
                   have NQ := hid hn'
                   obtain ⟨z0, z1, z2, f0, f1, f2⟩ := blk3 KZ.out
                   have hlz := lt_of_row KZ.out
                   clear hbk hch' hl' hn' iM))
            all_goals (go_wp2_with fail; go_meet)
            all_goals first
              | exact ⟨_, q', o', l', c', rfl, ⟨blk_new _ _, LQ.out, NQ.out.below ((Below.refl _ _).alloc (Nat.le_refl _) _) (Nat.le_refl _)⟩, CQ.out, iN.out.alloc iN.out.size _⟩
              | exact ⟨w4.heap.size, q', o', l', c', rfl, ⟨blk_store3 KZ.out, LQ.out, natV_store NQ.out KZ.out⟩, CQ.out, ((iN.out.setCell (Nat.le_refl _) _).setCell (Nat.le_refl _) _).setCell (Nat.le_refl _) _⟩
          case rest =>
            obtain ⟨gx, q', o', l', c', rfl, hk, hch', hbc⟩ := hcut
            have KX := hid hk
            have CQ := hid (CN.out q' hch')
            have NL2 := hid ((NL.out.below hbc).congr (q' := fun k => if k = j then q' else q k) (fun k hk => by rw [if_neg (by omega)]))
            have B5 := hid (B4.out.trans (hbc.mono B4.out.size))
            have LQ := hid hk.len
            have NQ := hid hk.nat
            obtain ⟨x0, x1, x2, -, -, -⟩ := blk3 hk.blk
            have hlt := lt_of_row hk.blk
            have hsz := B5.out.size
            clear hk hch' hbc NL B4 CN KX HC HCL a1 a2 hgl hw1 hw2 hw3 hx1 hx2 htn
            go_wp2_with (first
              | (at_builtin; refine wpList_append_own _ rfl _ _ 103 rfl w3.heap.size 92 i0 (.agg #[.bool false, .slice none 0 0, .int .i64 0]) 3 40 Tryz.underlying103 hI0 hy0 hy1 hy2 rfl (by decide) _ _ _ rfl (NL2.out.own.alloc _) ⟨wc.heap.size, 0, none⟩ 1 1 [.bool q'.1, .slice o' l' c', .int .i64 q'.2.2] rfl rfl three_cells ?c2 ?c3 ?c4 ?c5 ?_)
              | go_in)
            case c2 => intro u hu; simp at hu; rcases hu with rfl | rfl | rfl <;> rfl
            case c3 => unfold maxLen; omega
            case c4 => omega
            case c5 => first | omega | (simp; omega)
            · intro v' w5 hown' hgrow _
              have PB := hid (own_push NL2.out.own B5.out (Nat.le_refl _) hgrow)
              have PN := hid (NL2.out.push (o := o') (l := l') (c := c') (by rw [if_pos rfl]; exact LQ.out) (by rw [if_pos rfl]; exact NQ.out) (by rw [if_pos rfl]; exact hown') hgrow ((Below.refl _ _).alloc (Nat.le_refl _) _))
              clear hown' hgrow NL2 B5 LQ NQ x0 x1 x2 hlt
              go_wp2
              go_roundw
              case rel => first | exact ⟨j + 1, _, _, by omega, by go_num, PN.out, CQ.out, PB.out⟩ | ((repeat apply Exists.intro); exact ⟨⟨j + 1, _, _, by omega, by go_num, PN.out, CQ.out, PB.out⟩, rfl⟩)
              case measure => simp [intOf]; omega
        · obtain rfl : n = j := by omega
          have NR := NL.out.row
          obtain ⟨po, pc, rfl, -⟩ := id NR
          have NR := hid NR
          have HM4 := hid (HM.out.below B4.out)
          have SEP : Hid (∀ g, u11.ownBlock = some g → (Value.slice po n pc).ownBlock ≠ some g) := fun g hgv hc => by
            have h1 := (NL.out.blk hc).1
            have h2 := (HM.out.v.blk hgv).2
            omega
          have hsz := HM4.out.hb.size
          have CHR := hid CH.out
          clear NL HM B4 CH
          go_wp2_with (first
            | (at_builtin; refine wpList_append_own _ rfl _ _ 210 rfl w.heap.size 103 i1 (.slice none 0 0) 1 24 Tryz.underlying210 hI1 hz0 hz1 hz2 rfl (by decide) _ _ _ rfl (HM4.out.m.own.alloc _) ⟨w4.heap.size, 0, none⟩ 1 1 [.slice po n pc] rfl rfl one_cell ?c2 ?c3 ?c4 ?c5 ?_)
            | go_in)
          case c2 => first | rfl | (intro u hu; simp at hu; rcases hu with rfl; rfl)
          case c3 => unfold maxLen; omega
          case c4 => omega
          case c5 => first | omega | (simp; omega)
          · intro v' w5 hown' hgrow _
            have HR5 := hid (HM4.out.row NR.out SEP.out hown' hgrow)
            clear hown' hgrow HM4 NR SEP hsz
            have hbw := HR5.out.hb
            obtain ⟨gb, offb, rfl, hgb, hcb⟩ := HY.out.resolve_left (by omega)
            obtain ⟨a1, a2⟩ := hcb i hi
            rw [← hbw.cell (by exact hgb)] at a1 a2
            have hgl : gb < w5.heap.size := Nat.lt_of_lt_of_le hgb hbw.size
            have HC := hid (fun (p : Int) (W : World) => chosen_any (ys i).1 (ys i).2 (IY.out i hi) p W)
            have CN : Hid (∀ y, Cho (ys i).1 (ys i).2 y → ChM n xs ys (i + 1) (fun k => if k = i then q else Q k) (fun k => if k = i then y else B k)) := fun y h => CM.out.step CHR.out h
            generalize (ys i).1 = p1 at *
            generalize (ys i).2 = p2 at *
            have hw1 : IntKind.i64.wrap (2 * (i : Int)) = 2 * (i : Int) := by rw [IntKind.wrap_i64]; omega
            have hw2 : IntKind.i64.wrap (2 * (i : Int) + 40) = 2 * (i : Int) + 40 := by rw [IntKind.wrap_i64]; omega
            have HCL : Hid (∀ W : World, Below w5.heap.size w5 W → W.cell? ⟨gb, offb + i * 2, none⟩ = some (.int .u64 (p1 : Int)) ∧ W.cell? ⟨gb, offb + i * 2 + 1, none⟩ = some (.int .u64 (p2 : Int))) := fun W hW => ⟨by rw [hW.cell (by exact hgl)]; exact a1, by rw [hW.cell (by exact hgl)]; exact a2⟩
            clear hcb hgb hbw CM CHR
            go_wp2_with fail
            go_cut [16] (fun s16 wc => ∃ (gx : Nat) (q' : Bool × Nat × Int) (o : Option Addr) (l c : Nat), s16 = .pointer (some ⟨gx, 0, none⟩) ∧ NBk wc gx q' o l c ∧ Cho p1 p2 q' ∧ Below w5.heap.size w5 wc)
            case first =>
              have iN : Hid (Below w5.heap.size w5 w5.drew) := (Below.refl _ _).drew
              clear CN HR5 HX HY HZ IX IY IZ HH
              go_region_held3 (fun W => W.cell? ⟨gb, offb + i * 2, none⟩ = some (.int .u64 (p1 : Int)) ∧ W.cell? ⟨gb, offb + i * 2 + 1, none⟩ = some (.int .u64 (p2 : Int))) (first | with_reducible exact HCL.out _ iN.out | exact HCL.out _ (iN.out.alloc iN.out.size _) | exact HCL.out _ (((iN.out.setCell (Nat.le_refl _) _).setCell (Nat.le_refl _) _).setCell (Nat.le_refl _) _))
                (first
                  | (go_at_call 170; with_reducible (refine Calls.mono (HC.out _ _) ?_); rintro e v0 ⟨q', o', l', c', rfl, hl', hn', hch', hbk⟩
                     have iN := hid (iN.out.trans (hbk.mono iN.out.size))
                     have CQ := hid hch'
                     have LQ := hid hl'
                     have NQ := hid hn'
                     clear hbk hch' hl' hn')
                  | (go_at_call 170; with_reducible (refine Calls.mono (HC.out _ _) ?_); rintro e v0 ⟨q', o', l', c', rfl, hl', hn', hch', hbk⟩
                     have KZ := hid (blk_below (w := (w5.alloc (Obj.cells #[.bool false, .slice none 0 0, .int .i64 0] 92)).drew) (blk_new w5 (Obj.cells #[.bool false, .slice none 0 0, .int .i64 0] 92)) hbk)
                     have iM : Hid (Below w5.heap.size w5 (w5.alloc (Obj.cells #[.bool false, .slice none 0 0, .int .i64 0] 92)).drew) := ((Below.refl _ _).alloc (Nat.le_refl _) _).drew
                     have iN := hid (iM.out.trans (hbk.mono iM.out.size))
                     have CQ := hid hch'
                     have LQ := hid hl'
                     have NQ := hid hn'
                     obtain ⟨z0, z1, z2, f0, f1, f2⟩ := blk3 KZ.out
                     have hlz := lt_of_row KZ.out
                     clear hbk hch' hl' hn' iM))
              all_goals (go_wp2_with fail; go_meet)
              all_goals first
                | exact ⟨_, q', o', l', c', rfl, ⟨blk_new _ _, LQ.out, NQ.out.below ((Below.refl _ _).alloc (Nat.le_refl _) _) (Nat.le_refl _)⟩, CQ.out, iN.out.alloc iN.out.size _⟩
                | exact ⟨w5.heap.size, q', o', l', c', rfl, ⟨blk_store3 KZ.out, LQ.out, natV_store NQ.out KZ.out⟩, CQ.out, ((iN.out.setCell (Nat.le_refl _) _).setCell (Nat.le_refl _) _).setCell (Nat.le_refl _) _⟩
            case rest =>
              obtain ⟨gx, q', o', l', c', rfl, hk, hch', hbc⟩ := hcut
              have CQ := hid (CN.out q' hch')
              have HR6 := hid (HR5.out.below hbc)
              have LQ := hid hk.len
              have NQ := hid hk.nat
              obtain ⟨x0, x1, x2, -, -, -⟩ := blk3 hk.blk
              have hlt := lt_of_row hk.blk
              have hsz := HR6.out.hb.size
              clear hk hch' hbc HR5 CN HC HCL a1 a2 hgl hw1 hw2
              go_wp2_with (first
                | (at_builtin; refine wpList_append_at rfl _ _ 103 rfl w.heap.size 92 i0 (.agg #[.bool false, .slice none 0 0, .int .i64 0]) 3 40 Tryz.underlying103 hI0 hy0 hy1 hy2 rfl (by decide) _ _ _ rfl (HR6.out.v.own.alloc _) ⟨wc.heap.size, 0, none⟩ 1 1 [.bool q'.1, .slice o' l' c', .int .i64 q'.2.2] (by decide) rfl rfl three_cells ?c2 ?c3 ?c4 ?c5 ?_)
                | go_in)
              case c2 => intro u hu; simp at hu; rcases hu with rfl | rfl | rfl <;> rfl
              case c3 => unfold maxLen; omega
              case c4 => omega
              case c5 => first | omega | (simp; omega)
              · intro v'' w6 hown' hgrow hblk
                obtain ⟨u', hN⟩ := HR6.out.num (yo := o') (yl := l') (yc := c') hn0 LQ.out NQ.out hown' hgrow (by rw [World.size_alloc]; exact hblk)
                have HN6 := hid hN
                clear hN hown' hgrow hblk HR6 LQ NQ x0 x1 x2 hlt
                go_wp2
                go_roundw
                case rel => first | exact ⟨i + 1, _, _, _, _, by omega, by go_num, HN6.out, CQ.out⟩ | ((repeat apply Exists.intro); exact ⟨⟨i + 1, _, _, _, _, by omega, by go_num, HN6.out, CQ.out⟩, rfl⟩)
                case measure => simp [intOf]; omega
    · obtain rfl : n = i := by omega
      have MT := hid HM.out.m.mat
      have NR0 := HM.out.v.row
      obtain ⟨vo, vc, rfl, -⟩ := id NR0
      have NR := hid NR0
      have HB := hid HM.out.hb
      have BQ : Hid (∀ (col : Int) (a b : Nat), a < n → b < n → Bq 953 953 (entQ Q B col a b)) := fun col a b ha hb => by
        unfold entQ
        split
        · exact (CM.out.b a ha).bq
        · exact (CM.out.q a b ha hb).bq
      have SH := hid (sys_held CM.out HH.out)
      have DC := hid (detW_any n hn u10 vo n vc (-1) Q B w3 MT.out (.inl (by omega)) (BQ.out (-1)))
      have hmm := MM_le hn
      clear NR0 HM CM HH HX HY IX IY
      unfold DetC at DC
      go_wp2_with fail
      refine Calls.mono DC.out ?_
      rintro e w5 ⟨d, do_, dl, dc, rfl, hdl, hdn, hdp, hb5⟩
      have hdv := hdp.val
      rw [ent_none _ _ (by omega), sys_det (B := B)] at hdv
      have DV := hid hdv
      have D0 : Hid (valQ d ≠ 0) := by show _ ≠ _; rw [DV.out]; exact SH.out.1
      have BD := hid hdp.bq
      have SD := hid (hdp.bq.sm (by omega) (by omega))
      have hb35 := hb5
      have K5 := blk_new w5 (Obj.cells #[.bool d.1, .slice do_ dl dc, .int .i64 d.2.2] 92)
      have ha : Below w5.heap.size w5 (w5.alloc (Obj.cells #[.bool d.1, .slice do_ dl dc, .int .i64 d.2.2] 92)) := (Below.refl _ _).alloc (Nat.le_refl _) _
      have KD5 := hid (NBk.mk K5 hdl (hdn.below ha (Nat.le_refl _)))
      have B36 := hid (hb5.trans (ha.mono hb5.size))
      have gz : (sgnI d.1 d.2.1 == 0) = false := by
        rw [beq_eq_false_iff_ne]
        intro hc
        have a := (sgn_val d).1.1 (by omega)
        have b := (sgn_val d).2.1 (by omega)
        exact D0.out (by grind)
      clear hdl hdn hdp hb5 hdv DC K5 ha hb35
      go_wp2_with fail
      generalize (w5.alloc (Obj.cells #[.bool d.1, .slice do_ dl dc, .int .i64 d.2.2] 92)) = W5 at *
      generalize w5.heap.size = gD at *
      refine Calls.mono (sign_any _ d.1 d.2.1 d.2.2 W5 ⟨do_, dl, dc, rfl, KD5.out.len, KD5.out.nat⟩) ?_
      rintro e w6 ⟨rfl, hb6⟩
      have KD := hid (KD5.out.below hb6)
      have h36 := B36.out.trans (hb6.mono B36.out.size)
      have MT6 := hid (MT.out.below h36)
      have NR6 := hid (NR.out.below h36)
      have HB6 := hid (HB.out.trans (h36.mono HB.out.size))
      clear hb6 h36 KD5 B36 MT NR HB
      go_wp2_with fail
      go_loopw [18] (fun x wy => ∃ k : Nat, k ≤ n ∧ x = .int .i64 (k : Int) ∧ Below w6.heap.size w6 wy) (fun x _ => n - (intOf x).toNat)
      case atStart => exact ⟨0, Nat.zero_le _, rfl, Below.refl _ _⟩
      case round =>
        obtain ⟨k, hk1, rfl, hb⟩ := hrel
        have HB7 := hid hb
        clear hb
        by_cases hk : k < n
        · have DC := hid (detW_any n hn u10 vo n vc (k : Int) Q B wr (MT6.out.below HB7.out) (.inr ⟨rfl, NR6.out.below HB7.out⟩) (BQ.out (k : Int)))
          unfold DetC at DC
          obtain ⟨g, off, rfl, hg, hc⟩ := HZ.out.resolve_left (by omega)
          obtain ⟨c1, c2⟩ := hc k hk
          have hbw := HB6.out.trans (HB7.out.mono HB6.out.size)
          have HCL : Hid (∀ W : World, Below wr.heap.size wr W → W.cell? ⟨g, off + k * 2, none⟩ = some (.int .u64 ((zs k).1 : Int)) ∧ W.cell? ⟨g, off + k * 2 + 1, none⟩ = some (.int .u64 ((zs k).2 : Int)) ∧ g < W.heap.size) := fun W hW => by
            have h := hbw.trans (hW.mono hbw.size)
            exact ⟨by rw [h.cell (by exact hg)]; exact c1, by rw [h.cell (by exact hg)]; exact c2, Nat.lt_of_lt_of_le hg h.size⟩
          have iv := IZ.out k hk
          have MG := hid (made_gives (zs k).1 (zs k).2 iv.lt1 iv.lt2)
          rw [make_iv iv] at MG
          simp only at MG
          have P1 := hid (pl_of iv.p1)
          have P2 := hid (pl_of iv.p2)
          have MW := hid (SH.out.2 k hk)
          have KD7 := hid (KD.out.below HB7.out)
          have BTW : Hid (∀ x : Bool × Nat × Int, valQ x = detR n (fun i b => valQ (entQ Q B (k : Int) i b)) → (0 ≤ sgnI d.1 d.2.1 → lessT x (prodN (plT (zs k).1) d) = false ∧ lessT (prodN (plT (zs k).2) d) x = false) ∧ (sgnI d.1 d.2.1 < 0 → lessT x (prodN (plT (zs k).2) d) = false ∧ lessT (prodN (plT (zs k).1) d) x = false)) := fun x hx => by
            rw [sys_col] at hx
            obtain ⟨m1, m2⟩ := MW.out
            rw [← hx, ← DV.out] at m1 m2
            exact between D0.out m1 m2
          generalize plT (zs k).1 = zl at *
          generalize plT (zs k).2 = zh at *
          generalize (zs k).1 = y1 at *
          generalize (zs k).2 = y2 at *
          clear hc hg c1 c2 hbw iv MW HZ IZ
          go_wp2_with fail
          refine Calls.mono DC.out ?_
          rintro e w8 ⟨x, xo, xl, xc, rfl, hxl, hxn, hxp, hb8⟩
          have BT := hid (BTW.out x hxp.val)
          have SX := hid (hxp.bq.sm (by omega) (by omega))
          have ha : Below w8.heap.size w8 (w8.alloc (Obj.cells #[.bool x.1, .slice xo xl xc, .int .i64 x.2.2] 92)) := (Below.refl _ _).alloc (Nat.le_refl _) _
          have KX := hid (NBk.mk (x := x) (blk_new w8 (Obj.cells #[.bool x.1, .slice xo xl xc, .int .i64 x.2.2] 92)) hxl (hxn.below ha (Nat.le_refl _)))
          have B8 := hid (hb8.trans (ha.mono hb8.size))
          obtain ⟨c1, c2, hgl⟩ := HCL.out w8 hb8
          clear hxl hxn hxp hb8 ha DC BTW
          go_wp2_with fail
          generalize (w8.alloc (Obj.cells #[.bool x.1, .slice xo xl xc, .int .i64 x.2.2] 92)) = W9 at *
          generalize w8.heap.size = gX at *
          refine Calls.mono (MG.out _) ?_
          rintro e w9 ⟨ao1, la, ca, bo1, lb, cb, rfl, hla, hlb, hna1, hnb1, hb9⟩
          have ha : Below w9.heap.size w9 (w9.alloc (Obj.cells #[.bool zl.1, .slice ao1 la ca, .int .i64 zl.2.2, .bool zh.1, .slice bo1 lb cb, .int .i64 zh.2.2] 98)) := (Below.refl _ _).alloc (Nat.le_refl _) _
          have KI := blk_new w9 (Obj.cells #[.bool zl.1, .slice ao1 la ca, .int .i64 zl.2.2, .bool zh.1, .slice bo1 lb cb, .int .i64 zh.2.2] 98)
          have B9 := B8.out.trans (hb9.mono B8.out.size)
          have KD9 := hid (KD7.out.below B9)
          have B10 := hid (B9.trans (ha.mono B9.size))
          have KX10 := hid ((KX.out.below hb9).below ha)
          have KD10 := hid (KD9.out.below ha)
          have N1 := hid (hna1.below ha (Nat.le_refl _))
          have N2 := hid (hnb1.below ha (Nat.le_refl _))
          have L2 := hid hlb
          have HP1 := hid (prod_g P1.out.sm SD.out (w9.alloc (Obj.cells #[.bool zl.1, .slice ao1 la ca, .int .i64 zl.2.2, .bool zh.1, .slice bo1 lb cb, .int .i64 zh.2.2] 98)) ao1 do_ la ca dl dc hla N1.out KD10.out.len KD10.out.nat)
          obtain ⟨d0, d1, d2, -, -, -⟩ := blk3 KD9.out.blk
          have hld := lt_of_row KD9.out.blk
          clear hla hlb hna1 hnb1 hb9 ha B9 B8 KX MG c1 c2 hgl KD9 N1
          go_wp2_with fail
          generalize (w9.alloc (Obj.cells #[.bool zl.1, .slice ao1 la ca, .int .i64 zl.2.2, .bool zh.1, .slice bo1 lb cb, .int .i64 zh.2.2] 98)) = W10 at *
          generalize w9.heap.size = gI at *
          refine Calls.mono HP1.out ?_
          rintro e w11 ⟨lo_, ll, lc, rfl, hll, hln, hb11⟩
          have BPL := hid (P1.out.bq.prod BD.out)
          generalize hpl : prodN zl d = pl at *
          have KI11 := hid (blk_below KI hb11)
          have KX11 := hid (KX10.out.below hb11)
          have KD11 := hid (KD10.out.below hb11)
          have B11 := hid (B10.out.trans (hb11.mono B10.out.size))
          have N2 := hid (N2.out.below hb11 (Nat.le_refl _))
          have ha : Below w11.heap.size w11 (w11.alloc (Obj.cells #[.bool pl.1, .slice lo_ ll lc, .int .i64 pl.2.2] 92)) := (Below.refl _ _).alloc (Nat.le_refl _) _
          have KL12 := hid (NBk.mk (x := pl) (blk_new w11 (Obj.cells #[.bool pl.1, .slice lo_ ll lc, .int .i64 pl.2.2] 92)) hll (hln.below ha (Nat.le_refl _)))
          have KD12 := hid (KD11.out.below ha)
          have HP2 := hid (prod_g P2.out.sm SD.out (w11.alloc (Obj.cells #[.bool pl.1, .slice lo_ ll lc, .int .i64 pl.2.2] 92)) bo1 do_ lb cb dl dc L2.out (N2.out.below ha (Nat.le_refl _)) KD12.out.len KD12.out.nat)
          have KX12 := hid (KX11.out.below ha)
          have B12 := hid (B11.out.trans (ha.mono B11.out.size))
          have hgeL := B11.out.size
          have hXL := lt_of_row KX11.out.blk
          clear d0 d1 d2 hld
          obtain ⟨d0, d1, d2, -, -, -⟩ := blk3 KD11.out.blk
          obtain ⟨-, -, -, a3, a4, a5, -, -, -, -, -, -⟩ := blk6 KI11.out
          have hld := lt_of_row KD11.out.blk
          have hlI := lt_of_row KI11.out
          clear hll hln hb11 ha KI KX10 KD10 B10 HP1 KX11 KD11 B11 N2 L2 hpl
          go_wp2_with fail
          generalize (w11.alloc (Obj.cells #[.bool pl.1, .slice lo_ ll lc, .int .i64 pl.2.2] 92)) = W12 at *
          generalize w11.heap.size = gL at *
          refine Calls.mono HP2.out ?_
          rintro e w13 ⟨ho_, hl, hc_, rfl, hhl, hhn, hb13⟩
          have BPH := hid (P2.out.bq.prod BD.out)
          generalize hph : prodN zh d = ph at *
          have KX13 := hid (KX12.out.below hb13)
          have KD13 := hid (KD12.out.below hb13)
          have KL13 := hid (KL12.out.below hb13)
          have B13 := hid (B12.out.trans (hb13.mono B12.out.size))
          have ha : Below w13.heap.size w13 (w13.alloc (Obj.cells #[.bool ph.1, .slice ho_ hl hc_, .int .i64 ph.2.2] 92)) := (Below.refl _ _).alloc (Nat.le_refl _) _
          have KH14 := hid (NBk.mk (x := ph) (blk_new w13 (Obj.cells #[.bool ph.1, .slice ho_ hl hc_, .int .i64 ph.2.2] 92)) hhl (hhn.below ha (Nat.le_refl _)))
          have KD14 := hid (KD13.out.below ha)
          have KX14 := hid (KX13.out.below ha)
          have KL14 := hid (KL13.out.below ha)
          have B14 := hid (B13.out.trans (ha.mono B13.out.size))
          have HSG := hid (sign_any _ d.1 d.2.1 d.2.2 (w13.alloc (Obj.cells #[.bool ph.1, .slice ho_ hl hc_, .int .i64 ph.2.2] 92)) ⟨do_, dl, dc, rfl, KD14.out.len, KD14.out.nat⟩)
          have hLH : gL < w13.heap.size := lt_of_row KL13.out.blk
          have hgeH := B13.out.size
          have hXH := lt_of_row KX13.out.blk
          clear d0 d1 d2 hld a3 a4 a5 hlI
          obtain ⟨d0, d1, d2, -, -, -⟩ := blk3 KD13.out.blk
          have hld := lt_of_row KD13.out.blk
          clear hhl hhn hb13 ha KX12 KD12 KL12 B12 HP2 KX13 KD13 KL13 B13 hph KI11
          go_wp2_with fail
          generalize (w13.alloc (Obj.cells #[.bool ph.1, .slice ho_ hl hc_, .int .i64 ph.2.2] 92)) = W14 at *
          generalize w13.heap.size = gH at *
          refine Calls.mono HSG.out ?_
          rintro e w15 ⟨rfl, hb15⟩
          have KX15 := hid (KX14.out.below hb15)
          have KL15 := hid (KL14.out.below hb15)
          have KH15 := hid (KH14.out.below hb15)
          have B15 := hid (B14.out.trans (hb15.mono B14.out.size))
          have SPL := hid (BPL.out.sm (by omega) (by omega))
          have SPH := hid (BPH.out.sm (by omega) (by omega))
          clear hb15 KX14 KL14 KH14 KD14 B14 HSG d0 d1 d2 hld BPL BPH P1 P2
          obtain ⟨x0, x1, x2, -, -, -⟩ := blk3 KX15.out.blk
          obtain ⟨l0, l1, l2, fl0, fl1, fl2⟩ := blk3 KL15.out.blk
          obtain ⟨h0, h1, h2, fh0, fh1, fh2⟩ := blk3 KH15.out.blk
          have hlx := lt_of_row KX15.out.blk
          have hll := lt_of_row KL15.out.blk
          have hlh := lt_of_row KH15.out.blk
          by_cases hsg : sgnI d.1 d.2.1 < 0
          · have g1 : decide (sgnI d.1 d.2.1 < 0) = true := decide_eq_true hsg
            obtain ⟨t1, t2⟩ := BT.out.2 hsg
            clear hsg BT
            go_upto_region 30 with fail
            generalize hW : (((((((w15.setCell ⟨gL, 0, none⟩ (.bool ph.1)).setCell ⟨gL, 1, none⟩ (.slice ho_ hl hc_)).setCell ⟨gL, 2, none⟩ (.int .i64 ph.2.2)).setCell ⟨gH, 0, none⟩ (.bool pl.1)).setCell ⟨gH, 1, none⟩ (.slice lo_ ll lc)).setCell ⟨gH, 2, none⟩ (.int .i64 pl.2.2)).alloc (Obj.cells #[.bool pl.1, .slice lo_ ll lc, .int .i64 pl.2.2] 92)) = W16
            obtain ⟨s1, s2, s3, s4⟩ := swap_mem B15.out KX15.out KL15.out KH15.out hgeL hgeH (by omega) (by omega) (by omega) _ W16 hW.symm
            have KX16 := hid s1
            have KL16 := hid s2
            have KH16 := hid s3
            have B16 := hid s4
            clear s1 s2 s3 s4 hW KX15 KL15 KH15 B15 x0 x1 x2 l0 l1 l2 fl0 fl1 fl2 h0 h1 h2 fh0 fh1 fh2 hlx hll hlh
            have HL1 := hid (less_g SX.out SPH.out W16 xo ho_ xl xc hl hc_ KX16.out.len KX16.out.nat KL16.out.len KL16.out.nat)
            rw [t1] at HL1
            clear t1
            obtain ⟨x0, x1, x2, -, -, -⟩ := blk3 KX16.out.blk
            obtain ⟨l0, l1, l2, -, -, -⟩ := blk3 KL16.out.blk
            have hlx := lt_of_row KX16.out.blk
            have hll := lt_of_row KL16.out.blk
            go_wp2_with fail
            refine Calls.mono HL1.out ?_
            rintro e w17 ⟨rfl, hb17⟩
            have KX17 := hid (KX16.out.below hb17)
            have KH17 := hid (KH16.out.below hb17)
            have B17 := hid (B16.out.trans (hb17.mono B16.out.size))
            have HL2 := hid (less_g SPL.out SX.out w17 lo_ xo ll lc xl xc KH17.out.len KH17.out.nat KX17.out.len KX17.out.nat)
            rw [t2] at HL2
            clear hb17 KX16 KL16 KH16 B16 HL1 t2 x0 x1 x2 l0 l1 l2 hlx hll
            obtain ⟨x0, x1, x2, -, -, -⟩ := blk3 KX17.out.blk
            obtain ⟨h0, h1, h2, -, -, -⟩ := blk3 KH17.out.blk
            have hlx := lt_of_row KX17.out.blk
            have hlh := lt_of_row KH17.out.blk
            go_wp2_with fail
            refine Calls.mono HL2.out ?_
            rintro e w18 ⟨rfl, hb18⟩
            have h18 := B17.out.trans (hb18.mono B17.out.size)
            have HB18 := hid (HB7.out.trans (h18.mono HB7.out.size))
            clear hb18 h18 HL2 KX17 KH17 B17 x0 x1 x2 h0 h1 h2 hlx hlh
            go_wp2
            go_roundw
            case rel => exact ⟨k + 1, by omega, by go_num, HB18.out⟩
            case measure => simp [intOf]; omega
          · have g1 : decide (sgnI d.1 d.2.1 < 0) = false := decide_eq_false hsg
            obtain ⟨t1, t2⟩ := BT.out.1 (by omega)
            have HL1 := hid (less_g SX.out SPL.out w15 xo lo_ xl xc ll lc KX15.out.len KX15.out.nat KL15.out.len KL15.out.nat)
            rw [t1] at HL1
            clear hsg BT t1
            go_wp2_with fail
            refine Calls.mono HL1.out ?_
            rintro e w16 ⟨rfl, hb16⟩
            have KX16 := hid (KX15.out.below hb16)
            have KH16 := hid (KH15.out.below hb16)
            have B16 := hid (B15.out.trans (hb16.mono B15.out.size))
            have HL2 := hid (less_g SPH.out SX.out w16 ho_ xo hl hc_ xl xc KH16.out.len KH16.out.nat KX16.out.len KX16.out.nat)
            rw [t2] at HL2
            clear hb16 KX15 KL15 KH15 B15 HL1 t2 x0 x1 x2 l0 l1 l2 fl0 fl1 fl2 h0 h1 h2 fh0 fh1 fh2 hlx hll hlh
            obtain ⟨x0, x1, x2, -, -, -⟩ := blk3 KX16.out.blk
            obtain ⟨h0, h1, h2, -, -, -⟩ := blk3 KH16.out.blk
            have hlx := lt_of_row KX16.out.blk
            have hlh := lt_of_row KH16.out.blk
            go_wp2_with fail
            refine Calls.mono HL2.out ?_
            rintro e w17 ⟨rfl, hb17⟩
            have h17 := B16.out.trans (hb17.mono B16.out.size)
            have HB17 := hid (HB7.out.trans (h17.mono HB7.out.size))
            clear hb17 h17 HL2 KX16 KH16 B16 x0 x1 x2 h0 h1 h2 hlx hlh
            go_wp2
            go_roundw
            case rel => exact ⟨k + 1, by omega, by go_num, HB17.out⟩
            case measure => simp [intOf]; omega
        · have HBF := hid (HB6.out.trans (HB7.out.mono HB6.out.size))
          go_wp2
          go_ret
          exact ⟨rfl, HBF.out⟩
end Go.Proofs.YtonhpkigoplmaaaGreatDoor
