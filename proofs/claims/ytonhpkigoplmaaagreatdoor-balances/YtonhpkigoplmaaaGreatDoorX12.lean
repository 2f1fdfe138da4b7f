/-
  SolT, JdgD, BoxL, JdgE, JdgF, JdgG, JdgC, JdgI, AppW, SolU, SolV, SlvA, SlvB.
-/
import Derived.Test.YtonhpkigoplmaaaGreatDoorX11
import Derived.Test.YtonhpkigoplmaaaGreatDoorX09
import Derived.Deep.RegionHeld3
import Derived.Deep.RegionLaw
import Derived.Test.YtonhpkigoplmaaaGreatDoorX05
import Derived.Test.YtonhpkigoplmaaaGreatDoorX10
namespace Go.Proofs.YtonhpkigoplmaaaGreatDoor
open Go.RowKit Go.Extern Ieee

/-- A word without its sign; the least and the greatest amount of an interval; a float's quotient. -/
def absW (w : Nat) : Nat := w % 9223372036854775808
def lsW (a : Nat × Nat) : Nat := if holdsT (plT a.1) (plT a.2) = true then 0 else fmin (absW a.1) (absW a.2)
def gtW (a : Nat × Nat) : Nat := fmax (absW a.1) (absW a.2)
def dvW (x y : Nat) : Nat := (double.div x y).getD 0

def shJ (row : Nat → Nat × Nat) (least best : Nat) : Nat → Nat → Nat → Option Nat
  | 0, _, sh => some sh
  | f + 1, j, sh => if kw (fmin sh (dvW least (gtW (row j)))) ≤ kw best then none else shJ row least best f (j + 1) (fmin sh (dvW least (gtW (row j))))

def pvI (M : Nat → Nat → Nat × Nat) (n k : Nat) : Nat → Nat → Nat → Option Nat → Option Nat
  | 0, _, _, at_ => at_
  | f + 1, i, best, at_ => if lsW (M i k) = 0 then pvI M n k f (i + 1) best at_ else match shJ (M i) (lsW (M i k)) best (n - k) k 4607182418800017408 with
    | none => pvI M n k f (i + 1) best at_
    | some s => pvI M n k f (i + 1) s (some i)

def pvX (M : Nat → Nat → Nat × Nat) (n k : Nat) : Option Nat := pvI M n k (n - k) k 0 none

theorem pvI_some {M : Nat → Nat → Nat × Nat} {n k a : Nat} : ∀ (f i best : Nat) (at_ : Option Nat), pvI M n k f i best at_ = some a → (at_ = some a ∨ (i ≤ a ∧ a < i + f ∧ lsW (M a k) ≠ 0))
  | 0, _, _, _, h => .inl h
  | f + 1, i, best, at_, h => by
    unfold pvI at h
    split at h
    · rcases pvI_some f (i + 1) best at_ h with h | ⟨h1, h2, h3⟩
      · exact .inl h
      · exact .inr ⟨by omega, by omega, h3⟩
    · rename_i hl
      split at h
      · rcases pvI_some f (i + 1) best at_ h with h | ⟨h1, h2, h3⟩
        · exact .inl h
        · exact .inr ⟨by omega, by omega, h3⟩
      · rcases pvI_some f (i + 1) _ _ h with h | ⟨h1, h2, h3⟩
        · obtain rfl := Option.some.inj h
          exact .inr ⟨by omega, by omega, hl⟩
        · exact .inr ⟨by omega, by omega, h3⟩

theorem sgn_val (x : Bool × Nat × Int) : (sgnI x.1 x.2.1 ≤ 0 ↔ valQ x ≤ 0) ∧ (0 ≤ sgnI x.1 x.2.1 ↔ 0 ≤ valQ x) := by
  have hp := pw_pos x.2.2
  unfold sgnI valQ sg
  by_cases h0 : x.2.1 = 0
  · rw [if_pos h0, h0]
    cases x.1 <;> simp
  · rw [if_neg h0]
    have hn : (0 : Rat) < ((x.2.1 : Nat) : Rat) := Rat.natCast_pos.2 (by omega)
    have := Rat.mul_pos hn hp
    cases x.1
    · simp only [Bool.false_eq_true, if_false]
      rw [Rat.intCast_natCast]
      constructor
      · constructor <;> intro h
        · omega
        · grind
      · constructor <;> intro h
        · grind
        · omega
    · simp only [if_true]
      rw [Rat.intCast_neg, Rat.intCast_natCast]
      constructor
      · constructor <;> intro h
        · grind
        · omega
      · constructor <;> intro h
        · omega
        · grind

theorem holds_val (a : Nat × Nat) : holdsT (plT a.1) (plT a.2) = true ↔ memW a 0 := by
  unfold holdsT memW valW
  rw [Bool.and_eq_true, decide_eq_true_eq, decide_eq_true_eq, (sgn_val _).1, (sgn_val _).2]

def memO (a : Nat × Nat) (x : Rat) : Prop := ivW a ∧ memW a x

theorem inv_between {b1 b2 y : Rat} (hy : b1 ≤ y ∧ y ≤ b2) (h : 0 < b1 ∨ b2 < 0) : 1 / b2 ≤ 1 / y ∧ 1 / y ≤ 1 / b1 := by
  have key : ∀ u v : Rat, u ≤ v → (0 < u ∨ v < 0) → 1 / v ≤ 1 / u := by
    intro u v huv hs
    have hu : u ≠ 0 := by grind
    have hv : v ≠ 0 := by grind
    have huv0 : 0 < u * v := by
      rcases hs with hs | hs
      · exact Rat.mul_pos hs (by grind)
      · have := Rat.mul_pos (show 0 < -u by grind) (show 0 < -v by grind)
        grind
    apply Decidable.byContradiction
    intro hc
    have := Rat.mul_pos (show 0 < 1 / v - 1 / u by grind) huv0
    have e1 : 1 / v * (u * v) = u := by grind
    have e2 : 1 / u * (u * v) = v := by grind
    grind
  constructor
  · exact key y b2 hy.2 (by grind)
  · exact key b1 y hy.1 (by grind)

theorem out_sides {b : Nat × Nat} (i : ivW b) (h : ¬ memW b 0) : 0 < valW b.1 ∨ valW b.2 < 0 := by
  have := Iv.vle i
  unfold memW at h
  grind

theorem val_ne {w : Nat} (h : valW w ≠ 0) : (plT w).2.1 ≠ 0 := fun hc => h (val_zero hc)

theorem br_quoW {a b : Nat × Nat} (ia : ivW a) (ib : ivW b) (h : ¬ memW b 0) : ∀ i j, (i = a.1 ∨ i = a.2) → (j = b.1 ∨ j = b.2) → BR (quoN (plT i) (plT j)) (valW i / valW j) := by
  intro i j hi hj
  have hs := out_sides ib h
  have hle := Iv.vle ib
  have h0 : valW j ≠ 0 := by rcases hj with rfl | rfl <;> grind
  have hi2 : Plnum (plT i) := by
    rcases hi with rfl | rfl
    · exact plain_num ia.p1
    · exact plain_num ia.p2
  have hj2 : Plnum (plT j) := by
    rcases hj with rfl | rfl
    · exact plain_num ib.p1
    · exact plain_num ib.p2
  exact br_quo hi2 hj2 (val_ne h0)

theorem qu_mem {a b c : Nat × Nat} {x y : Rat} (ia : ivW a) (ib : ivW b) (h0 : ¬ memW b 0) (h : quX a b = some c) (hx : memW a x) (hy : memW b y) : memW c (x / y) := by
  obtain ⟨_, k⟩ := (corn_ends (f := quoN) (a := a) (b := b) (g := fun i j => valW i / valW j) (br_quoW ia ib h0)).1 c h
  have k1 := k a.1 b.1 (.inl rfl) (.inl rfl)
  have k2 := k a.1 b.2 (.inl rfl) (.inr rfl)
  have k3 := k a.2 b.1 (.inr rfl) (.inl rfl)
  have k4 := k a.2 b.2 (.inr rfl) (.inr rfl)
  have hi := inv_between hy (out_sides ib h0)
  have d : ∀ u v : Rat, u / v = u * (1 / v) := fun u v => by grind
  rw [d (valW a.1) (valW b.1)] at k1
  rw [d (valW a.1) (valW b.2)] at k2
  rw [d (valW a.2) (valW b.1)] at k3
  rw [d (valW a.2) (valW b.2)] at k4
  rw [d x y]
  exact ⟨corner_low hx hi k2.1 k1.1 k4.1 k3.1, corner_high hx hi k2.2 k1.2 k4.2 k3.2⟩

theorem holding : Holding memO muX suX quX pvX where
  mu := fun a b c x y h hx hy => ⟨mu_iv h, mu_mem h hx.2 hy.2⟩
  su := fun a b c x y h hx hy => ⟨su_iv hx.1 hy.1 h, su_mem hx.1 hy.1 h hx.2 hy.2⟩
  qo := fun a b c x y h0 h hx hy => by
    have h0' : ¬ memW b 0 := fun hc => h0 ⟨hy.1, hc⟩
    exact ⟨((corn_ends (f := quoN) (a := a) (b := b) (g := fun i j => valW i / valW j) (br_quoW hx.1 hy.1 h0')).1 c h).1, qu_mem hx.1 hy.1 h0' h hx.2 hy.2⟩
  pv := fun M n k a h => by
    rcases pvI_some _ _ _ _ h with h | ⟨h1, h2, h3⟩
    · cases h
    · refine ⟨h1, by omega, fun hc => h3 ?_⟩
      unfold lsW
      rw [if_pos ((holds_val _).2 hc.2)]

/-- A word that is not below 0 and no NaN. -/
structure NN (d : Nat) : Prop where
  le : d ≤ 9218868437227405312
theorem NN.kw {d : Nat} (h : NN d) : kw d = d := by
  have := h.le
  unfold Go.Proofs.YtonhpkigoplmaaaGreatDoor.kw sg
  rw [decide_eq_false (by omega), if_neg Bool.false_ne_true]; omega
theorem NN.fmin {x y : Nat} (hx : NN x) (hy : NN y) : Go.Proofs.YtonhpkigoplmaaaGreatDoor.fmin x y = min x y ∧ NN (Go.Proofs.YtonhpkigoplmaaaGreatDoor.fmin x y) := by
  have e : Go.Proofs.YtonhpkigoplmaaaGreatDoor.fmin x y = min x y := by
    unfold Go.Proofs.YtonhpkigoplmaaaGreatDoor.fmin
    rw [hx.kw, hy.kw]
    split <;> omega
  refine ⟨e, ?_⟩
  rw [e]
  have := hx.le
  have := hy.le
  exact ⟨by omega⟩
theorem NN.fmax {x y : Nat} (hx : NN x) (hy : NN y) : Go.Proofs.YtonhpkigoplmaaaGreatDoor.fmax x y = max x y ∧ NN (Go.Proofs.YtonhpkigoplmaaaGreatDoor.fmax x y) := by
  have e : Go.Proofs.YtonhpkigoplmaaaGreatDoor.fmax x y = max x y := by
    unfold Go.Proofs.YtonhpkigoplmaaaGreatDoor.fmax
    rw [hx.kw, hy.kw]
    split <;> omega
  refine ⟨e, ?_⟩
  rw [e]
  have := hx.le
  have := hy.le
  exact ⟨by omega⟩
theorem NN.fr {d : Nat} (h : NN d) : FR d (posF d) := ⟨by have := h.le; omega, by have := h.le; omega, by have := h.le; omega, rfl⟩

/-- A plain amount's word. -/
def PlA (d : Nat) : Prop := d = 0 ∨ 553942754166571008 ≤ d ∧ d ≤ 8660422083433463808
theorem PlA.nn {d : Nat} (h : PlA d) : NN d := ⟨by unfold PlA at h; omega⟩

theorem abs_plain {l : Nat} (hl : l < 18446744073709551616) (h : plainN l = some (plT l)) : PlA (absW l) ∧ valW (absW l) = ab (valW l) := by
  unfold absW PlA
  have hp : (plainN l).isSome = true := by rw [h]; rfl
  by_cases h0 : l % 9223372036854775808 = 0
  · refine ⟨.inl h0, ?_⟩
    rw [h0]
    have : l = 0 ∨ l = 9223372036854775808 := by omega
    have z : valW 0 = 0 := val_zero rfl
    have z2 : valW 9223372036854775808 = 0 := val_zero rfl
    rcases this with rfl | rfl
    · rw [z, ab_zero]
    · rw [z, z2, ab_zero]
  · have hb : 553942754166571008 ≤ l % 9223372036854775808 ∧ l % 9223372036854775808 ≤ 8660422083433463808 := by
      unfold plainN at hp
      split at hp
      · omega
      · split at hp
        · cases hp
        · omega
    refine ⟨.inr hb, ?_⟩
    have e1 : plT (l % 9223372036854775808) = (false, l % 9223372036854775808 % 4503599627370496 + 4503599627370496, ((l % 9223372036854775808 / 4503599627370496 : Nat) : Int) - 1075) := by
      have := plT_wd false hb.1 hb.2
      rw [show wd false (l % 9223372036854775808) = l % 9223372036854775808 by unfold wd; simp] at this
      unfold plT
      rw [this]; rfl
    have e2 : plT l = (decide (9223372036854775808 ≤ l), l % 9223372036854775808 % 4503599627370496 + 4503599627370496, ((l % 9223372036854775808 / 4503599627370496 : Nat) : Int) - 1075) := by
      have := plT_wd (decide (9223372036854775808 ≤ l)) hb.1 hb.2
      rw [wd_self hl] at this
      unfold plT
      rw [this]; rfl
    unfold valW
    rw [e1, e2]
    unfold valQ sg
    simp only
    have hp2 := Rat.mul_pos (show (0 : Rat) < ((l % 9223372036854775808 % 4503599627370496 + 4503599627370496 : Nat) : Rat) from Rat.natCast_pos.2 (by omega)) (pw_pos (((l % 9223372036854775808 / 4503599627370496 : Nat) : Int) - 1075))
    by_cases hd : 9223372036854775808 ≤ l
    · rw [decide_eq_true hd]
      simp only [Bool.false_eq_true, if_false, if_true]
      rw [Rat.intCast_neg, Rat.intCast_natCast]
      rcases ab_cases (-((l % 9223372036854775808 % 4503599627370496 + 4503599627370496 : Nat) : Rat) * pw (((l % 9223372036854775808 / 4503599627370496 : Nat) : Int) - 1075)) with ⟨_, e⟩ | ⟨_, e⟩ <;> grind
    · rw [decide_eq_false hd]
      simp only [Bool.false_eq_true, if_false]
      rw [Rat.intCast_natCast]
      rcases ab_cases (((l % 9223372036854775808 % 4503599627370496 + 4503599627370496 : Nat) : Rat) * pw (((l % 9223372036854775808 / 4503599627370496 : Nat) : Int) - 1075)) with ⟨_, e⟩ | ⟨_, e⟩ <;> grind
end Go.Proofs.YtonhpkigoplmaaaGreatDoor
namespace Go.Proofs.YtonhpkigoplmaaaGreatDoor
open Go.RowKit Go.Extern Ieee

end Go.Proofs.YtonhpkigoplmaaaGreatDoor
namespace Go.Proofs.YtonhpkigoplmaaaGreatDoor
open Go.RowKit

/-- The cells of n boxes. -/
def bxs (xs : Nat → Nat × Nat) (n : Nat) : List Value := bvs ((List.range n).map xs)
theorem bxs_push (xs : Nat → Nat × Nat) (n : Nat) : bxs xs (n + 1) = bxs xs n ++ [.int .u64 ((xs n).1 : Int), .int .u64 ((xs n).2 : Int)] := by
  unfold bxs
  rw [List.range_succ, List.map_append, bvs_append]
  rfl
theorem BxV.congr {W : World} {ao : Option Addr} {n : Nat} {xs ys : Nat → Nat × Nat} (h : BxV W ao n xs) (e : ∀ i, i < n → xs i = ys i) : BxV W ao n ys := by
  rcases h with h | ⟨g, off, e1, hg, h⟩
  · exact .inl h
  · exact .inr ⟨g, off, e1, hg, fun i hi => by rw [← e i hi]; exact h i hi⟩
theorem BxV.of_bxs {w : World} {v : Value} {B T n : Nat} {xs : Nat → Nat × Nat} (h : w.ownsRow B T 2 v n (bxs xs n)) : ∃ ao c, v = .slice ao n c ∧ n ≤ c ∧ BxV w ao n xs := by
  have hl : ((List.range n).map xs).length = n := by simp
  have h2 : w.ownsRow B T 2 v ((List.range n).map xs).length (bvs ((List.range n).map xs)) := by rw [hl]; exact h
  obtain ⟨ao, c, e, hc, hb⟩ := BxV.of_owns _ h2
  rw [hl] at e hc hb
  refine ⟨ao, c, e, hc, hb.congr fun i hi => ?_⟩
  rw [List.getD_eq_getElem?_getD, List.getElem?_map, List.getElem?_range hi]
  rfl

/-- append upon a list of one's own. -/
theorem own_push {b s k : Nat} {T : TypeId} {w wr w1 : World} {v : Value} {xs : List Value} {o : Obj} (hown : wr.ownsRow b T s v k xs) (hb : Below b w wr) (hB : b ≤ w.heap.size) (hgrow : (wr.alloc o).grownBy w1 v.ownBlock) : Below b w w1 := by
  have hs := hb.size
  exact (hb.alloc (by omega) o).grown hgrow (by simp; omega) (fun k hk => (hown.lt k hk).1)
theorem two_cells {W : World} {a b : Value} {t : TypeId} : ∀ j u, ([a, b] : List Value)[j]? = some u → (W.alloc (Obj.cells #[a, b] t)).cell? ((Addr.mk W.heap.size 0 none).add j) = some u := by
  intro j u hj
  have hk := blk_new W (Obj.cells #[a, b] t)
  obtain ⟨c1, c2, -, -⟩ := blk2 hk
  match j, hj with
  | 0, hj => simp at hj; subst hj; exact c1
  | 1, hj => simp at hj; subst hj; exact c2
theorem one_cell {W : World} {a : Value} {t : TypeId} : ∀ j u, ([a] : List Value)[j]? = some u → (W.alloc (Obj.cells #[a] t)).cell? ((Addr.mk W.heap.size 0 none).add j) = some u := by
  intro j u hj
  have hk := blk_new W (Obj.cells #[a] t)
  match j, hj with
  | 0, hj =>
    simp at hj
    subst hj
    have e : (Addr.mk W.heap.size 0 none).add 0 = ⟨W.heap.size, 0, none⟩ := by simp [Addr.add]
    rw [e, cell_of_cur hk]
    rfl
theorem infoPB : (Tryz.prog.info? 33).map (fun i => (i.zero, i.size, i.bytes)) = some (some (.agg #[.int .u64 0, .int .u64 0]), 2, 16) := by kernel_rfl
end Go.Proofs.YtonhpkigoplmaaaGreatDoor
namespace Go.Proofs.YtonhpkigoplmaaaGreatDoor
open Go.RowKit Go.Extern Ieee

def MM : Nat → Nat
  | 0 => 1
  | n + 1 => MM n + 953 + (n + 1)
end Go.Proofs.YtonhpkigoplmaaaGreatDoor
namespace Go.Proofs.YtonhpkigoplmaaaGreatDoor
open Go.RowKit Go.Extern Ieee

--@def NA(X) .agg #[.bool X.1, .slice o l c, .int .i64 X.2.2]
end Go.Proofs.YtonhpkigoplmaaaGreatDoor
namespace Go.Proofs.YtonhpkigoplmaaaGreatDoor
open Go.RowKit Go.Extern Ieee

end Go.Proofs.YtonhpkigoplmaaaGreatDoor
namespace Go.Proofs.YtonhpkigoplmaaaGreatDoor
open Go.RowKit Go.Extern Ieee

end Go.Proofs.YtonhpkigoplmaaaGreatDoor
namespace Go.Proofs.YtonhpkigoplmaaaGreatDoor
open Go.RowKit Go.Extern Ieee

end Go.Proofs.YtonhpkigoplmaaaGreatDoor
namespace Go.Proofs.YtonhpkigoplmaaaGreatDoor
open Go.RowKit

theorem append_block {P : Program} (w : World) (base : Nat) (t ty e : TypeId) (i : TypeInfo) (z : Value) (size bytes : Nat) (ht : P.underlying t = some (.slice e)) (hi : P.info? e = some i) (hz : i.zero = some z)
    (hsize : i.size = size) (hby : i.bytes = bytes) (hzs : z.cells.size = size) (hsz : 0 < size)
    (v : Value) (n : Nat) (xs : List Value) (hown : w.ownsRow base e size v n xs)
    (a : Addr) (m c : Nat) (news : List Value) (hm : 0 < m) (hl : news.length = m * size) (hnews : ∀ j u, news[j]? = some u → w.cell? (a.add j) = some u) (h1 : ∀ u ∈ news, u.oneCell' = true)
    (h63 : n + m ≤ maxLen) (hbytes : (n + m) * bytes ≤ 140737488355328) (hbase : base ≤ w.heap.size) :
    ∃ v' w', (Builtin.append_ #[t, t] ty #[v, .slice (some a) m c]).run P w = .ok v' w' ∧ w'.ownsRow base e size v' (n + m) (xs ++ news) ∧ w.grownBy w' v.ownBlock ∧ (v'.ownBlock = v.ownBlock ∨ v'.ownBlock = some w.heap.size) := by
  obtain ⟨v', w', hr, h2, h3, -⟩ := run_append_own (P := P) w base t ty e i z size bytes ht hi hz hsize hby hzs hsz v n xs hown a m c news hl hnews h1 h63 hbytes hbase
  refine ⟨v', w', hr, h2, h3, ?_⟩
  subst hsize
  subst hby
  have hsmall : n + m ≤ 9223372036854775807 := by simp only [maxLen] at h63; omega
  obtain ⟨hx, ⟨rfl, rfl⟩ | ⟨g, cap, cur, rfl, -, hg, hnc, -, hcs, -⟩⟩ := id hown
  · have hr2 := run_append_nil (P := P) w t ty e i z ht hi hz a m c news hl hnews hm (by omega) (by have hb := hbytes; simp only [Nat.zero_add] at hb; omega)
    rw [hr2] at hr
    cases hr
    right
    simp [Value.ownBlock]
  · by_cases hroom : n + m ≤ cap
    · have hr2 := run_append_room (P := P) w t ty e i ht hi g n cap cur hg a m c news hl hnews h1 hroom (by rw [hl, hcs, ← Nat.add_mul]; exact Nat.mul_le_mul_right _ hroom)
      rw [hr2] at hr
      cases hr
      left
      simp [Value.ownBlock]
    · have hr2 := run_append_grow (P := P) w t ty e i z ht hi hz ⟨g, 0, none⟩ n cap xs hx (hown.cells (g := g) rfl) a m c news hl hnews (by omega) (by omega) (growslice_fits (by omega) hbytes)
      rw [hr2] at hr
      cases hr
      right
      simp [Value.ownBlock]

theorem wpList_append_at {P : Program} {w : World} {ops : Array Oper} {rest : List Oper} {o : Oper} {a : Act} {Q : Exit → Act → World → Prop} (hgd : o.guard = none) (s x : Operand) (t : TypeId)
    (ho : o.op = .call { callee := .builtin .append, args := #[s, x], argTypes := #[t, t] })
    (base : Nat) (e : TypeId) (i : TypeInfo) (z : Value) (size bytes : Nat) (ht : P.underlying t = some (.slice e)) (hi : P.info? e = some i) (hz : i.zero = some z)
    (hsize : i.size = size) (hby : i.bytes = bytes) (hzs : z.cells.size = size) (hsz : 0 < size)
    (v : Value) (n : Nat) (xs : List Value) (hs : a.eval s = v) (hown : w.ownsRow base e size v n xs)
    (ad : Addr) (m c : Nat) (news : List Value) (hm : 0 < m) (hx : a.eval x = .slice (some ad) m c) (hl : news.length = m * size) (hnews : ∀ j u, news[j]? = some u → w.cell? (ad.add j) = some u) (h1 : ∀ u ∈ news, u.oneCell' = true)
    (h63 : n + m ≤ maxLen) (hbytes : (n + m) * bytes ≤ 140737488355328) (hbase : base ≤ w.heap.size)
    (h : ∀ v' w', w'.ownsRow base e size v' (n + m) (xs ++ news) → w.grownBy w' v.ownBlock → (v'.ownBlock = v.ownBlock ∨ v'.ownBlock = some w.heap.size) → wpList P ops Q rest (a.put o.dst v') w') : wpList P ops Q (o :: rest) a w := by
  refine wpList_plain hgd fun _ hK => ?_
  obtain ⟨v', w', hr, h2, h3, h4⟩ := append_block (P := P) w base t o.type e i z size bytes ht hi hz hsize hby hzs hsz v n xs hown ad m c news hm hl hnews h1 h63 hbytes hbase
  unfold Oper.wp
  simp [execOp, ho, resolve, invoke, builtin, hs, hx, hr, Result.andThen]
  exact hK _ _ (h v' w' h2 h3 h4)
end Go.Proofs.YtonhpkigoplmaaaGreatDoor
namespace Go.Proofs.YtonhpkigoplmaaaGreatDoor
open Go.RowKit Go.Extern Ieee

theorem read_plA {d : Nat} (h1 : 553942754166571008 ≤ d) (h2 : d ≤ 8660422083433463808) : double.read d = .number false (d % 4503599627370496 + 4503599627370496) (((d / 4503599627370496 : Nat) : Int) - 1075) := by
  have hsw : double.signWeight = 9223372036854775808 := rfl
  have hbn : double.binade = 4503599627370496 := rfl
  have hir : double.infRung = 9218868437227405312 := rfl
  have hlp : double.leastPlace = -1074 := rfl
  have hm : d % 9223372036854775808 = d := by omega
  have hd : (d / 9223372036854775808 % 2 == 1) = false := by
    rw [show d / 9223372036854775808 % 2 = 0 by omega]; rfl
  unfold Format.read
  simp only [hsw, hbn, hir, hlp, hm, hd]
  rw [if_neg (by omega), if_pos (by omega)]
  congr 1
  · omega
  · omega

/-- A quotient, held against one half. -/
theorem dv_half {x y : Nat} (hx1 : 553942754166571008 ≤ x) (hx2 : x ≤ 8660422083433463808) (hy1 : 553942754166571008 ≤ y) (hy2 : y ≤ 8660422083433463808) :
    double.div x y = some (dvW x y) ∧ NN (dvW x y) ∧ (y ≤ x + 4503599627370496 → 4602678819172646912 ≤ dvW x y) ∧ (x + 4503599627370496 ≤ y → dvW x y ≤ 4602678819172646912) := by
  have rx := read_plA hx1 hx2
  have ry := read_plA hy1 hy2
  have x1 : 4503599627370496 ≤ x % 4503599627370496 + 4503599627370496 := by omega
  have x2 : x % 4503599627370496 + 4503599627370496 < 9007199254740992 := by omega
  have y1 : 4503599627370496 ≤ y % 4503599627370496 + 4503599627370496 := by omega
  have y2 : y % 4503599627370496 + 4503599627370496 < 9007199254740992 := by omega
  have hdv := div_plain rx ry x1 x2 y1 y2
  have hD : dvW x y = double.nearest (false ^^ false) (q1 (x % 4503599627370496 + 4503599627370496) (y % 4503599627370496 + 4503599627370496)) (((x / 4503599627370496 : Nat) : Int) - 1075 - (((y / 4503599627370496 : Nat) : Int) - 1075) - 55) := by unfold dvW; rw [hdv, Option.getD_some]
  obtain ⟨b1, b2⟩ := q1_bl x1 x2 y1 y2
  obtain ⟨c1, c2⟩ := q1_bounds x1 x2 y1 y2
  have hq : q1 (x % 4503599627370496 + 4503599627370496) (y % 4503599627370496 + 4503599627370496) = 2 * ((x % 4503599627370496 + 4503599627370496) * 2 ^ 54 / (y % 4503599627370496 + 4503599627370496)) + if (x % 4503599627370496 + 4503599627370496) * 2 ^ 54 % (y % 4503599627370496 + 4503599627370496) = 0 then 0 else 1 := rfl
  have p54 : (2 : Nat) ^ 54 = 18014398509481984 := by decide
  have p55 : (2 : Nat) ^ 55 = 36028797018963968 := by decide
  have big : x % 4503599627370496 ≥ y % 4503599627370496 → bl (q1 (x % 4503599627370496 + 4503599627370496) (y % 4503599627370496 + 4503599627370496)) = 56 := by
    intro h
    have : 18014398509481984 ≤ (x % 4503599627370496 + 4503599627370496) * 2 ^ 54 / (y % 4503599627370496 + 4503599627370496) := by
      rw [Nat.le_div_iff_mul_le (by omega), p54, Nat.mul_comm]
      exact Nat.mul_le_mul_right _ (by omega)
    have : 55 < bl (q1 (x % 4503599627370496 + 4503599627370496) (y % 4503599627370496 + 4503599627370496)) := bl_gt (by rw [p55, hq]; omega)
    omega
  have small : x % 4503599627370496 < y % 4503599627370496 → bl (q1 (x % 4503599627370496 + 4503599627370496) (y % 4503599627370496 + 4503599627370496)) = 55 := by
    intro h
    have : (x % 4503599627370496 + 4503599627370496) * 2 ^ 54 / (y % 4503599627370496 + 4503599627370496) < 18014398509481984 := by
      rw [Nat.div_lt_iff_lt_mul (by omega), p54, Nat.mul_comm]
      exact Nat.mul_lt_mul_of_pos_left (by omega) (by omega)
    have : bl (q1 (x % 4503599627370496 + 4503599627370496) (y % 4503599627370496 + 4503599627370496)) ≤ 55 := bl_le (by rw [p55, hq]; split <;> omega)
    omega
  have same : x % 4503599627370496 = y % 4503599627370496 → mf (q1 (x % 4503599627370496 + 4503599627370496) (y % 4503599627370496 + 4503599627370496)) = 4503599627370496 ∧ nup (q1 (x % 4503599627370496 + 4503599627370496) (y % 4503599627370496 + 4503599627370496)) = false := by
    intro h
    have e : q1 (x % 4503599627370496 + 4503599627370496) (y % 4503599627370496 + 4503599627370496) = 36028797018963968 := by
      rw [hq, h, Nat.mul_div_cancel_left _ (by omega), Nat.mul_mod_right, if_pos rfl, p54]
    rw [e]; decide
  generalize hQ : q1 (x % 4503599627370496 + 4503599627370496) (y % 4503599627370496 + 4503599627370496) = Q at *
  have hQ0 : Q ≠ 0 := by
    intro hc
    rw [hc] at b1
    have : bl 0 = 0 := rfl
    omega
  obtain ⟨m1, m2⟩ := mf_bounds (Nat.pos_of_ne_zero hQ0)
  obtain ⟨R, r1, r2, r3, r4, r5⟩ := nearest_any (false ^^ false) (((x / 4503599627370496 : Nat) : Int) - 1075 - (((y / 4503599627370496 : Nat) : Int) - 1075) - 55) hQ0
  have hR : dvW x y = R := by rw [hD, r1]; unfold wd; simp
  have hnup : (0 : Int) ≤ (if nup Q then 1 else 0) ∧ (if nup Q then (1 : Int) else 0) ≤ 1 := by split <;> omega
  rw [hR]
  refine ⟨by rw [hdv, ← hD, hR], ⟨r2⟩, fun h => ?_, fun h => ?_⟩
  · by_cases hE : 1023 < ((x / 4503599627370496 : Nat) : Int) - 1075 - (((y / 4503599627370496 : Nat) : Int) - 1075) - 55 + bl Q
    · have := r5 hE; omega
    · have hge : 0 ≤ ((x / 4503599627370496 : Nat) : Int) - 1075 - (((y / 4503599627370496 : Nat) : Int) - 1075) - 55 + bl Q := by
        by_cases hm : x % 4503599627370496 ≥ y % 4503599627370496
        · have := big hm; omega
        · have := small (by omega); omega
      have := r3 (by omega) (by omega)
      unfold rung at this
      omega
  · by_cases hE : ((x / 4503599627370496 : Nat) : Int) - 1075 - (((y / 4503599627370496 : Nat) : Int) - 1075) - 55 + bl Q < -1021
    · have := r4 hE; omega
    · by_cases hm : x % 4503599627370496 = y % 4503599627370496
      · have hb := big (by omega)
        obtain ⟨s1, s2⟩ := same hm
        have := r3 (by omega) (by omega)
        rw [s2] at this
        simp only [Bool.false_eq_true, if_false] at this
        unfold rung at this
        rw [s1, hb] at this
        omega
      · have hlt : ((x / 4503599627370496 : Nat) : Int) - 1075 - (((y / 4503599627370496 : Nat) : Int) - 1075) - 55 + bl Q ≤ -1 := by
          by_cases hm2 : x % 4503599627370496 ≥ y % 4503599627370496
          · have := big hm2; omega
          · have := small (by omega); omega
        have := r3 (by omega) (by omega)
        unfold rung at this
        omega

theorem dv_zero {x : Nat} (hx1 : 553942754166571008 ≤ x) (hx2 : x ≤ 8660422083433463808) : double.div x 0 = some 9218868437227405312 ∧ dvW x 0 = 9218868437227405312 := by
  have rx := read_plA hx1 hx2
  have r0 : double.read 0 = .number false 0 (-1074) := rfl
  have h : double.div x 0 = some 9218868437227405312 := by
    unfold Format.div
    rw [rx, r0]
    simp only [Datum.quotient]
    rw [if_pos trivial, if_neg (by omega)]
    rfl
  exact ⟨h, by unfold dvW; rw [h]; rfl⟩

/-- Amounts' words and their numbers. -/
theorem plA_val {d : Nat} (h : PlA d) : valW d = pq (d : Int) := by
  have hp : plP (d : Int) = true := by unfold plP; unfold PlA at h; exact decide_eq_true (by omega)
  have := pq_word hp
  rwa [show wdP (d : Int) = d by unfold wdP wd; rw [decide_eq_false (by omega)]; simp] at this

theorem rv_dbl (r : Int) : rvQ (r + 4503599627370496) = 2 * rvQ r := by
  obtain ⟨m, e, h1, h2, h3⟩ := rv_parts r
  rw [rv_at h1 h2 h3, rv_at (r := r + 4503599627370496) (m := m) (e := e + 1) (by omega) h2 h3, pw_add, pw_one]
  grind

theorem plA_half {x y : Nat} (hx : PlA x) (hx0 : x ≠ 0) (hy : PlA y) (hy0 : y ≠ 0) : (valW y ≤ 2 * valW x → y ≤ x + 4503599627370496) ∧ (2 * valW x ≤ valW y → x + 4503599627370496 ≤ y) := by
  rw [plA_val hx, plA_val hy]
  have e1 : pq (x : Int) = rvQ (x : Int) := by unfold pq; rw [if_neg (by omega), if_neg (by omega)]
  have e2 : pq (y : Int) = rvQ (y : Int) := by unfold pq; rw [if_neg (by omega), if_neg (by omega)]
  have e3 : 2 * rvQ (x : Int) = pq ((x : Int) + 4503599627370496) := by unfold pq; rw [if_neg (by omega), if_neg (by omega), rv_dbl]
  rw [e1, e3, e2, ← show pq (y : Int) = rvQ (y : Int) from e2]
  constructor
  · intro h
    apply Decidable.byContradiction
    intro hc
    have := pq_lt (p := (x : Int) + 4503599627370496) (q := (y : Int)) (by omega)
    grind
  · intro h
    apply Decidable.byContradiction
    intro hc
    have := pq_lt (p := (y : Int)) (q := (x : Int) + 4503599627370496) (by omega)
    grind

theorem plA_le {x y : Nat} (hx : PlA x) (hy : PlA y) : valW x ≤ valW y ↔ x ≤ y := by
  rw [plA_val hx, plA_val hy]
  constructor
  · intro h
    apply Decidable.byContradiction
    intro hc
    have := pq_lt (p := (y : Int)) (q := (x : Int)) (by omega)
    grind
  · intro h; exact pq_mono (by omega)

theorem plA_min {x y : Nat} (hx : PlA x) (hy : PlA y) : PlA (min x y) := by unfold PlA at *; omega
theorem plA_max {x y : Nat} (hx : PlA x) (hy : PlA y) : PlA (max x y) := by unfold PlA at *; omega

/-- The least amount's word. -/
theorem ls_ok {a : Nat × Nat} (i : ivW a) : PlA (lsW a) ∧ (¬ memW a 0 → lsW a ≠ 0 ∧ (valW (lsW a) = ab (valW a.1) ∨ valW (lsW a) = ab (valW a.2)) ∧ valW (lsW a) ≤ ab (valW a.1) ∧ valW (lsW a) ≤ ab (valW a.2)) := by
  obtain ⟨p1, v1⟩ := abs_plain i.lt1 i.p1
  obtain ⟨p2, v2⟩ := abs_plain i.lt2 i.p2
  have hm := (p1.nn.fmin p2.nn).1
  unfold lsW
  by_cases h : holdsT (plT a.1) (plT a.2) = true
  · rw [if_pos h]
    exact ⟨.inl rfl, fun hc => absurd ((holds_val a).1 h) hc⟩
  · rw [if_neg h, hm]
    refine ⟨plA_min p1 p2, fun hn => ?_⟩
    have hs := out_sides i hn
    have hle := Iv.vle i
    have n1 : absW a.1 ≠ 0 := by
      intro hc
      rw [hc] at v1
      have z : valW 0 = 0 := val_zero rfl
      have := ab_pos (x := valW a.1) (by grind)
      grind
    have n2 : absW a.2 ≠ 0 := by
      intro hc
      rw [hc] at v2
      have z : valW 0 = 0 := val_zero rfl
      have := ab_pos (x := valW a.2) (by grind)
      grind
    refine ⟨by omega, ?_, ?_, ?_⟩
    · rcases (show min (absW a.1) (absW a.2) = absW a.1 ∨ min (absW a.1) (absW a.2) = absW a.2 by omega) with h | h
      · left; rw [h, v1]
      · right; rw [h, v2]
    · rw [← v1]; exact (plA_le (plA_min p1 p2) p1).2 (by omega)
    · rw [← v2]; exact (plA_le (plA_min p1 p2) p2).2 (by omega)

theorem gt_ok {a : Nat × Nat} (i : ivW a) : PlA (gtW a) ∧ (valW (gtW a) = ab (valW a.1) ∨ valW (gtW a) = ab (valW a.2)) ∧ ab (valW a.1) ≤ valW (gtW a) ∧ ab (valW a.2) ≤ valW (gtW a) := by
  obtain ⟨p1, v1⟩ := abs_plain i.lt1 i.p1
  obtain ⟨p2, v2⟩ := abs_plain i.lt2 i.p2
  have hm := (p1.nn.fmax p2.nn).1
  unfold gtW
  rw [hm]
  refine ⟨plA_max p1 p2, ?_, ?_, ?_⟩
  · rcases (show max (absW a.1) (absW a.2) = absW a.1 ∨ max (absW a.1) (absW a.2) = absW a.2 by omega) with h | h
    · left; rw [h, v1]
    · right; rw [h, v2]
  · rw [← v1]; exact (plA_le p1 (plA_max p1 p2)).2 (by omega)
  · rw [← v2]; exact (plA_le p2 (plA_max p1 p2)).2 (by omega)

/-- Any quotient of a least amount: a word that is no NaN. -/
theorem dv_nn {x y : Nat} (hx : PlA x) (hx0 : x ≠ 0) (hy : PlA y) : double.div x y = some (dvW x y) ∧ NN (dvW x y) := by
  have hx' : 553942754166571008 ≤ x ∧ x ≤ 8660422083433463808 := by unfold PlA at hx; omega
  by_cases hy0 : y = 0
  · subst hy0
    obtain ⟨h1, h2⟩ := dv_zero hx'.1 hx'.2
    rw [h2]; exact ⟨h1, ⟨by omega⟩⟩
  · have hy' : 553942754166571008 ≤ y ∧ y ≤ 8660422083433463808 := by unfold PlA at hy; omega
    have := dv_half hx'.1 hx'.2 hy'.1 hy'.2
    exact ⟨this.1, this.2.1⟩

theorem shJ_good {row : Nat → Nat × Nat} {least : Nat} (hl : PlA least) (hl0 : least ≠ 0) : ∀ (f j sh : Nat), NN sh → 4602678819172646912 ≤ sh → (∀ x, j ≤ x → x < j + f → ivW (row x) ∧ valW (gtW (row x)) ≤ 2 * valW least) → ∃ s, shJ row least 0 f j sh = some s ∧ NN s ∧ 4602678819172646912 ≤ s
  | 0, j, sh, h1, h2, _ => ⟨sh, rfl, h1, h2⟩
  | f + 1, j, sh, h1, h2, h => by
    obtain ⟨iv, hg⟩ := h j (by omega) (by omega)
    obtain ⟨g1, _⟩ := gt_ok iv
    have hd : NN (dvW least (gtW (row j))) ∧ 4602678819172646912 ≤ dvW least (gtW (row j)) := by
      have hx' : 553942754166571008 ≤ least ∧ least ≤ 8660422083433463808 := by unfold PlA at hl; omega
      by_cases hy0 : gtW (row j) = 0
      · rw [hy0, (dv_zero hx'.1 hx'.2).2]; exact ⟨⟨by omega⟩, by omega⟩
      · have hy' : 553942754166571008 ≤ gtW (row j) ∧ gtW (row j) ≤ 8660422083433463808 := by unfold PlA at g1; omega
        obtain ⟨_, k1, k2, _⟩ := dv_half hx'.1 hx'.2 hy'.1 hy'.2
        exact ⟨k1, k2 ((plA_half hl hl0 g1 hy0).1 hg)⟩
    obtain ⟨m1, m2⟩ := h1.fmin hd.1
    unfold shJ
    have k0 : kw 0 = 0 := rfl
    rw [if_neg (by rw [m2.kw, k0, m1]; omega)]
    exact shJ_good hl hl0 f (j + 1) _ m2 (by rw [m1]; omega) (fun x a b => h x (by omega) (by omega))

theorem shJ_bad {row : Nat → Nat × Nat} {least best : Nat} (hl : PlA least) (hl0 : least ≠ 0) (hb : NN best) (hb2 : 4602678819172646912 ≤ best) {i : Nat} (hi : valW (gtW (row i)) ≠ 0 ∧ 2 * valW least ≤ valW (gtW (row i))) : ∀ (f j sh : Nat), NN sh → (∀ x, j ≤ x → x < j + f → ivW (row x)) → j ≤ i → i < j + f → shJ row least best f j sh = none
  | 0, j, sh, _, _, _, _ => by omega
  | f + 1, j, sh, h1, h, hij, hif => by
    have iv := h j (by omega) (by omega)
    obtain ⟨g1, _⟩ := gt_ok iv
    have hd := (dv_nn hl hl0 g1).2
    obtain ⟨m1, m2⟩ := h1.fmin hd
    unfold shJ
    by_cases hc : kw (fmin sh (dvW least (gtW (row j)))) ≤ kw best
    · rw [if_pos hc]
    · rw [if_neg hc]
      have hne : j ≠ i := by
        rintro rfl
        apply hc
        rw [m2.kw, hb.kw, m1]
        have hx' : 553942754166571008 ≤ least ∧ least ≤ 8660422083433463808 := by unfold PlA at hl; omega
        have hy0 : gtW (row j) ≠ 0 := fun hz => hi.1 (by rw [hz]; exact val_zero rfl)
        have hy' : 553942754166571008 ≤ gtW (row j) ∧ gtW (row j) ≤ 8660422083433463808 := by unfold PlA at g1; omega
        obtain ⟨_, _, _, k3⟩ := dv_half hx'.1 hx'.2 hy'.1 hy'.2
        have := k3 ((plA_half hl hl0 g1 hy0).2 hi.2)
        omega
      exact shJ_bad hl hl0 hb hb2 hi f (j + 1) _ m2 (fun x a b => h x (by omega) (by omega)) (by omega) (by omega)

theorem pvI_skip {M : Nat → Nat → Nat × Nat} {n k best : Nat} {a : Option Nat} : ∀ (f i : Nat), (∀ y, i ≤ y → y < i + f → lsW (M y k) = 0 ∨ shJ (M y) (lsW (M y k)) best (n - k) k 4607182418800017408 = none) → pvI M n k f i best a = a
  | 0, _, _ => rfl
  | f + 1, i, h => by
    unfold pvI
    have r := pvI_skip (M := M) (n := n) (k := k) (best := best) (a := a) f (i + 1) (fun y a b => h y (by omega) (by omega))
    by_cases h0 : lsW (M i k) = 0
    · rw [if_pos h0]; exact r
    · rw [if_neg h0, (h i (by omega) (by omega)).resolve_left h0]; exact r
end Go.Proofs.YtonhpkigoplmaaaGreatDoor
namespace Go.Proofs.YtonhpkigoplmaaaGreatDoor
open Go.RowKit Go.Extern Ieee

def loW (a : Nat × Nat) : Rat := valW a.1
def hiW (a : Nat × Nat) : Rat := valW a.2

theorem ends_of {a : Nat × Nat} {i : Nat} (h : i = a.1 ∨ i = a.2) : isEnd loW hiW a (valW i) := by
  rcases h with rfl | rfl
  · exact .inl rfl
  · exact .inr rfl

theorem corn_near {f : Bool × Nat × Int → Bool × Nat × Int → Bool × Nat × Int} {a b : Nat × Nat} {g : Rat → Rat → Rat} (hb : ∀ i j, (i = a.1 ∨ i = a.2) → (j = b.1 ∨ j = b.2) → BR (f (plT i) (plT j)) (g (valW i) (valW j))) {B : Rat} (hB : ∀ x y, isEnd loW hiW a x → isEnd loW hiW b y → bd B (g x y)) (hG : B ≤ pw 899) :
    ∃ c, cornX f a b = some c ∧ ivW c ∧ ∀ e, isEnd loW hiW c e → ∃ x y, isEnd loW hiW a x ∧ isEnd loW hiW b y ∧ Rnd (pw (-900)) e (g x y) := by
  obtain ⟨c, h1, h2, ⟨i, j, hi, hj, h3⟩, ⟨k, l, hk, hl, h4⟩⟩ := (corn_ends (f := f) (a := a) (b := b) (g := fun i j => g (valW i) (valW j)) hb).2 B (fun i j hi hj => hB _ _ (ends_of hi) (ends_of hj)) hG
  refine ⟨c, h1, h2, fun e he => ?_⟩
  rcases he with rfl | rfl
  · exact ⟨_, _, ends_of hi, ends_of hj, h3⟩
  · exact ⟨_, _, ends_of hk, ends_of hl, h4⟩

theorem near : Near loW hiW (pw (-900)) (pw 899) muX suX quX pvX ivW where
  mu := fun a b B _ _ hB hG => corn_near (f := prodN) (g := fun x y => x * y) (fun i j _ _ => br_mul i j) hB hG
  su := fun a b B ia ib hB hG => by
    obtain ⟨q1, r1⟩ := (end_low (br_sub a.1 b.2)).2 (bd_le (hB _ _ (.inl rfl) (.inr rfl)) hG)
    obtain ⟨q2, r2⟩ := (end_high (br_sub a.2 b.1)).2 (bd_le (hB _ _ (.inr rfl) (.inl rfl)) hG)
    have hc : suX a b = some (wdP (pbP (posV (sumT (plT a.1) (negT (plT b.2))) (-1))), wdP (paP (posV (sumT (plT a.2) (negT (plT b.1))) 1))) := by unfold suX wideX; rw [if_pos ⟨q1, q2⟩]
    obtain ⟨iv, v1, v2, _, _⟩ := wide_some hc (su_le ia ib)
    refine ⟨_, hc, iv, fun e he => ?_⟩
    rcases he with rfl | rfl
    · exact ⟨_, _, .inl rfl, .inr rfl, by show Rnd _ (valW _) _; rw [v1]; exact r1⟩
    · exact ⟨_, _, .inr rfl, .inl rfl, by show Rnd _ (valW _) _; rw [v2]; exact r2⟩
  qo := fun a b B ia ib h0 hB hG => corn_near (f := quoN) (g := fun x y => x / y) (br_quoW ia ib h0) hB hG
  pv := fun M n k hk oks h => by
    obtain ⟨L, hL, hs, ht⟩ := h.here
    have ikk := oks k k (Nat.le_refl _) hk (Nat.le_refl _) hk
    have out : ¬ memW (M k k) 0 := by
      rintro ⟨m1, m2⟩
      rcases hs with hs | hs
      · have := hs _ (.inl rfl)
        unfold loW at this; grind
      · have := hs _ (.inr rfl)
        unfold hiW at this; grind
    obtain ⟨p1, p2⟩ := ls_ok ikk
    obtain ⟨l0, l1, _, _⟩ := p2 out
    have hLv : L ≤ valW (lsW (M k k)) := by
      have key : ∀ x, isEnd loW hiW (M k k) x → L ≤ ab x := by
        intro x hx
        rcases hs with hs | hs
        · have := hs x hx
          rcases ab_cases x with ⟨_, e⟩ | ⟨_, e⟩ <;> grind
        · have := hs x hx
          rcases ab_cases x with ⟨_, e⟩ | ⟨_, e⟩ <;> grind
      rcases l1 with e | e
      · rw [e]; exact key _ (.inl rfl)
      · rw [e]; exact key _ (.inr rfl)
    obtain ⟨s, g1, g2, g3⟩ := shJ_good (row := M k) p1 l0 (n - k) k 4607182418800017408 ⟨by decide⟩ (by decide) (fun x a b => by
      have ix := oks k x (Nat.le_refl _) hk a (by omega)
      refine ⟨ix, ?_⟩
      obtain ⟨_, e, _, _⟩ := gt_ok ix
      rcases e with e | e
      · have := ab_le (ht x _ a (by omega) (.inl rfl))
        rw [e]; unfold loW at this; grind
      · have := ab_le (ht x _ a (by omega) (.inr rfl))
        rw [e]; unfold hiW at this; grind)
    obtain ⟨f, hf⟩ : ∃ f, n - k = f + 1 := ⟨n - k - 1, by omega⟩
    unfold pvX
    rw [hf]
    unfold pvI
    rw [if_neg l0, g1]
    refine pvI_skip _ _ (fun i a b => ?_)
    have ii := oks i i (by omega) (by omega) (by omega) (by omega)
    have ik := oks i k (by omega) (by omega) (Nat.le_refl _) hk
    obtain ⟨Li, hLi, h1, h2⟩ := h.there i (by omega) (by omega)
    by_cases hz : lsW (M i k) = 0
    · exact .inl hz
    · right
      obtain ⟨q1, q2⟩ := ls_ok ik
      have outi : ¬ memW (M i k) 0 := by
        intro hm
        apply hz
        unfold lsW
        rw [if_pos ((holds_val _).2 hm)]
      obtain ⟨_, e, _, _⟩ := q2 outi
      have hle : valW (lsW (M i k)) ≤ Li := by
        rcases e with e | e
        · rw [e]; exact ab_le (h1 _ (.inl rfl))
        · rw [e]; exact ab_le (h1 _ (.inr rfl))
      obtain ⟨_, _, k1, _⟩ := gt_ok ii
      have hge : 2 * Li ≤ valW (gtW (M i i)) := by
        have : 2 * Li ≤ ab (valW (M i i).1) := by
          rcases h2 with h2 | h2
          · have := h2 _ (.inl rfl)
            unfold loW at this
            rcases ab_cases (valW (M i i).1) with ⟨_, e⟩ | ⟨_, e⟩ <;> grind
          · have := h2 _ (.inl rfl)
            unfold loW at this
            rcases ab_cases (valW (M i i).1) with ⟨_, e⟩ | ⟨_, e⟩ <;> grind
        grind
      exact shJ_bad q1 hz g2 g3 (i := i) ⟨by grind, by grind⟩ (n - k) k _ ⟨by decide⟩ (fun x c d => oks i x (by omega) (by omega) c (by omega)) (by omega) (by omega)
end Go.Proofs.YtonhpkigoplmaaaGreatDoor
namespace Go.Proofs.YtonhpkigoplmaaaGreatDoor
open Go.RowKit Go.Extern Ieee
attribute [local go_sem] run_store_float

theorem ordK {d f : Nat} (h1 : d < 18446744073709551616) (h2 : d % 9223372036854775808 ≤ 9218868437227405312) (h3 : f < 18446744073709551616) (h4 : f % 9223372036854775808 ≤ 9218868437227405312) : double.order d f = some (compare (kw d) (kw f)) := by
  have := order_wd (s := decide (9223372036854775808 ≤ d)) (t := decide (9223372036854775808 ≤ f)) h2 h4
  rwa [wd_self h1, wd_self h3] at this

/-- What plainBelow gives, by words. -/
def plW (x : Nat) : Nat := if 0 < kw x ∧ kw x < 553942754166571008 then 0 else if kw x < 0 ∧ -553942754166571008 < kw x then 9777314791021346816 else x

set_option maxHeartbeats 1000000 in
set_option maxRecDepth 100000 in
theorem plainBelow_any (x : Nat) (w : World) (h1 : x < 18446744073709551616) (h2 : x % 9223372036854775808 ≤ 9218868437227405312) :
    Calls Tryz.prog 179 #[.float .f64 x] w fun e w' => e = .returned (.float .f64 (plW x)) ∧ w' = w := by
  have o1 : FloatKind.f64.format.order x 0 = some (compare (kw x) (kw 0)) := ordK h1 h2 (by decide) (by decide)
  have o2 : FloatKind.f64.format.order x 553942754166571008 = some (compare (kw x) (kw 553942754166571008)) := ordK h1 h2 (by decide) (by decide)
  have o3 : FloatKind.f64.format.order x 9777314791021346816 = some (compare (kw x) (kw 9777314791021346816)) := ordK h1 h2 (by decide) (by decide)
  have k0 : kw 0 = 0 := rfl
  have k1 : kw 553942754166571008 = 553942754166571008 := rfl
  have k2 : kw 9777314791021346816 = -553942754166571008 := rfl
  rw [k0] at o1
  rw [k1] at o2
  rw [k2] at o3
  clear k0 k1 k2 h1 h2
  have hp : Hid (plW x = if 0 < kw x ∧ kw x < 553942754166571008 then 0 else if kw x < 0 ∧ -553942754166571008 < kw x then 9777314791021346816 else x) := rfl
  generalize plW x = y at *
  generalize kw x = k at *
  rcases (show 553942754166571008 ≤ k ∨ (0 < k ∧ k < 553942754166571008) ∨ k = 0 ∨ (k < 0 ∧ -553942754166571008 < k) ∨ k ≤ -553942754166571008 by omega) with h | h | h | h | h
  · have e : Hid (y = x) := by show y = x; rw [hp.out, if_neg (by omega), if_neg (by omega)]
    rw [cmp_gt' (show (0 : Int) < k by omega)] at o1
    rcases (show 553942754166571008 < k ∨ k = 553942754166571008 by omega) with h' | h'
    · rw [cmp_gt' h'] at o2
      clear hp h h' o3
      go_enter Tryz.func179, Tryz.ntmps179
      go_wp2
      go_ret
      (rw [e.out]; exact ⟨rfl, rfl⟩)
    · rw [cmp_eq' h'] at o2
      clear hp h h' o3
      go_enter Tryz.func179, Tryz.ntmps179
      go_wp2
      go_ret
      (rw [e.out]; exact ⟨rfl, rfl⟩)
  · have e : Hid (y = 0) := by show y = 0; rw [hp.out, if_pos h]
    rw [cmp_gt' h.1] at o1
    rw [cmp_lt' h.2] at o2
    clear hp h o3
    go_enter Tryz.func179, Tryz.ntmps179
    go_wp2
    go_ret
    (rw [e.out]; exact ⟨rfl, rfl⟩)
  · have e : Hid (y = x) := by show y = x; rw [hp.out, if_neg (by omega), if_neg (by omega)]
    rw [cmp_eq' h] at o1
    clear hp h o2 o3
    go_enter Tryz.func179, Tryz.ntmps179
    go_wp2
    go_ret
    (rw [e.out]; exact ⟨rfl, rfl⟩)
  · have e : Hid (y = 9777314791021346816) := by show y = 9777314791021346816; rw [hp.out, if_neg (by omega), if_pos h]
    rw [cmp_lt' h.1] at o1
    rw [cmp_gt' h.2] at o3
    clear hp h o2
    go_enter Tryz.func179, Tryz.ntmps179
    go_wp2
    go_ret
    (rw [e.out]; exact ⟨rfl, rfl⟩)
  · have e : Hid (y = x) := by show y = x; rw [hp.out, if_neg (by omega), if_neg (by omega)]
    rw [cmp_lt' (show k < (0 : Int) by omega)] at o1
    rcases (show k < -553942754166571008 ∨ k = -553942754166571008 by omega) with h' | h'
    · rw [cmp_lt' h'] at o3
      clear hp h h' o2
      go_enter Tryz.func179, Tryz.ntmps179
      go_wp2
      go_ret
      (rw [e.out]; exact ⟨rfl, rfl⟩)
    · rw [cmp_eq' h'] at o3
      clear hp h h' o2
      go_enter Tryz.func179, Tryz.ntmps179
      go_wp2
      go_ret
      (rw [e.out]; exact ⟨rfl, rfl⟩)

/-- A word at a place; 0 may have a sign. -/
structure FZ (d : Nat) (p : Int) : Prop where
  lt : d < 18446744073709551616
  num : d % 9223372036854775808 ≤ 9218868437227405312
  pos : posF d = p

theorem FR.fz {d : Nat} {p : Int} (h : FR d p) : FZ d p := ⟨h.lt, h.num, h.pos⟩

theorem FZ.plW {d : Nat} {p : Int} (h : FZ d p) : FZ (plW d) (pbP p) ∧ (d ≠ 9223372036854775808 → plW d ≠ 9223372036854775808) := by
  have hk := posF_kw d
  rw [h.pos] at hk
  have hlt := h.lt
  have hnum := h.num
  have hka : kw d = if 9223372036854775808 ≤ d then -((d % 9223372036854775808 : Nat) : Int) else ((d % 9223372036854775808 : Nat) : Int) := kw_cases d
  unfold Go.Proofs.YtonhpkigoplmaaaGreatDoor.plW
  have c := clampR_cases ((kw d).natAbs : Int)
  have cb := clampR_bounds ((kw d).natAbs : Int)
  by_cases h1 : 0 < kw d ∧ kw d < 553942754166571008
  · rw [if_pos h1]
    rw [if_neg (by omega), decide_eq_false (by omega)] at hk
    unfold sgI at hk
    rw [if_neg Bool.false_ne_true] at hk
    have hp : pbP p = 0 := by unfold pbP; rw [if_pos (by omega)]
    rw [hp]
    exact ⟨⟨by decide, by decide, rfl⟩, fun _ => by decide⟩
  · rw [if_neg h1]
    by_cases h2 : kw d < 0 ∧ -553942754166571008 < kw d
    · rw [if_pos h2]
      rw [if_neg (by omega), decide_eq_true (by omega)] at hk
      unfold sgI at hk
      rw [if_pos rfl] at hk
      have hp : pbP p = -553942754166571008 := by unfold pbP; rw [if_neg (by omega), if_pos (by omega)]
      rw [hp]
      exact ⟨⟨by decide, by decide, rfl⟩, fun _ => by decide⟩
    · rw [if_neg h2]
      have hp : pbP p = p := by
        unfold pbP
        by_cases h0 : kw d = 0
        · rw [if_pos h0] at hk
          rw [if_neg (by omega), if_neg (by omega)]
        · rw [if_neg h0] at hk
          unfold sgI at hk
          by_cases hn : kw d < 0
          · rw [decide_eq_true hn, if_pos rfl] at hk
            rw [if_neg (by omega), if_neg (by omega)]
          · rw [decide_eq_false hn, if_neg Bool.false_ne_true] at hk
            rw [if_neg (by omega), if_neg (by omega)]
      rw [hp]
      exact ⟨h, fun hz => hz⟩

theorem FZ.neg {d : Nat} {p : Int} (h : FZ d p) : FZ (negW d) (-p) := by
  have hlt := h.lt
  have hnum := h.num
  have e := negW_eq hlt
  have e1 : negW d % 9223372036854775808 = d % 9223372036854775808 := by rw [e]; split <;> omega
  refine ⟨negW_lt hlt, by rw [e1]; exact hnum, ?_⟩
  rw [← h.pos]
  unfold posF
  rw [e1]
  by_cases h0 : d % 9223372036854775808 = 0
  · rw [if_pos h0, if_pos h0]; rfl
  · rw [if_neg h0, if_neg h0]
    unfold sgI
    by_cases hd : 9223372036854775808 ≤ d
    · have : ¬ 9223372036854775808 ≤ negW d := by rw [e, if_pos hd]; omega
      rw [decide_eq_true hd, decide_eq_false this, if_pos rfl, if_neg Bool.false_ne_true, Int.neg_neg]
    · have : 9223372036854775808 ≤ negW d := by rw [e, if_neg hd]; omega
      rw [decide_eq_false hd, decide_eq_true this, if_pos rfl, if_neg Bool.false_ne_true]

theorem FZ.posW {d : Nat} {p : Int} (h : FZ d p) : FR (posW d) p := by
  have hlt := h.lt
  have hnum := h.num
  refine ⟨posW_lt hlt, posW_nz d, ?_, ?_⟩
  · unfold Go.Proofs.YtonhpkigoplmaaaGreatDoor.posW; split
    · decide
    · exact hnum
  · rw [← h.pos]
    unfold Go.Proofs.YtonhpkigoplmaaaGreatDoor.posW
    split
    · rename_i h0
      unfold posF
      rw [if_pos h0]; rfl
    · rfl

theorem FZ.plain {d : Nat} {p : Int} (h : FZ d p) : (plainN d).isSome = plP p := by
  have := h.posW.plain
  rwa [plainN_posW d h.lt] at this
end Go.Proofs.YtonhpkigoplmaaaGreatDoor
namespace Go.Proofs.YtonhpkigoplmaaaGreatDoor
open Go.RowKit Go.Extern Ieee
attribute [local go_sem] run_store_float

theorem hid' {p : Prop} (h : p) : Hid p := h

/-- What an operation of Solve hands back. -/
def SvR (A : Nat → Addr) (w : World) (r : Option (Nat × Nat)) (ev : Ending) (w' : World) : Prop :=
  ∃ lo hi v, ev = .returned (.tuple #[.agg #[.float .f64 lo, .float .f64 hi], v]) ∧ Below w.heap.size w w' ∧ (r = some (lo, hi) ∧ v = .nilIface ∨ r = none ∧ v = .iface 229 (.pointer (some (A 8))))

theorem fz_less {a b : Nat} {p q : Int} (ha : FZ a p) (hb : FZ b q) (pa : plP p = true) (pb : plP q = true) (h : p ≤ q) : lessW b a = false := by
  have e1 : plainN (posW a) = plainN a := plainN_posW a ha.lt
  have e2 : plainN (posW b) = plainN b := plainN_posW b hb.lt
  have sa : (plainN a).isSome = true := by rw [ha.plain]; exact pa
  have sb : (plainN b).isSome = true := by rw [hb.plain]; exact pb
  have ia : Iv (posW a) (posW a) := ⟨ha.posW.lt, ha.posW.lt, ha.posW.nz, ha.posW.nz, plT_some (by rw [e1]; exact sa), plT_some (by rw [e1]; exact sa), Int.le_refl _⟩
  have ib : Iv (posW b) (posW b) := ⟨hb.posW.lt, hb.posW.lt, hb.posW.nz, hb.posW.nz, plT_some (by rw [e2]; exact sb), plT_some (by rw [e2]; exact sb), Int.le_refl _⟩
  have := lessT_pos ib ia
  rw [ha.posW.pos, hb.posW.pos, decide_eq_false (by omega)] at this
  unfold lessT plT at this
  unfold lessW
  rw [e1, e2] at this
  exact this

/-- Make of two widened ends. -/
theorem make_wide {lo hi : Nat} {p q : Int} (hl : FZ lo p) (hh : FZ hi q) (h : p ≤ q) : (makeN (plW lo) (negW (plW (negW hi)))).2.2 = 0 ∧ wideX p q = some ((makeN (plW lo) (negW (plW (negW hi)))).1, (makeN (plW lo) (negW (plW (negW hi)))).2.1) ∨ (makeN (plW lo) (negW (plW (negW hi)))).2.2 ≠ 0 ∧ (makeN (plW lo) (negW (plW (negW hi)))).2.2 ≤ 2 ∧ wideX p q = none := by
  have f1 := hl.plW.1
  have f2 : FZ (negW (plW (negW hi))) (paP q) := hh.neg.plW.1.neg
  have l1 := pbP_le p
  have l2 := le_paP q
  generalize plW lo = a at *
  generalize negW (plW (negW hi)) = b at *
  unfold makeN wideX
  rw [f1.plain, f2.plain]
  by_cases h1 : plP (pbP p) = true
  · by_cases h2 : plP (paP q) = true
    · left
      rw [if_neg (by rw [h1, h2]; simp), fz_less f1 f2 h1 h2 (by omega), if_neg Bool.false_ne_true, if_pos ⟨h1, h2⟩]
      refine ⟨rfl, ?_⟩
      rw [f1.posW.word h1, f2.posW.word h2]
    · right
      have h2' : plP (paP q) = false := by cases hc : plP (paP q) <;> simp_all
      rw [if_pos (by rw [h2']; simp), if_neg (by rw [h2']; simp)]
      exact ⟨by decide, by decide, rfl⟩
  · right
    have h1' : plP (pbP p) = false := by cases hc : plP (pbP p) <;> simp_all
    rw [if_pos (by rw [h1']; simp), if_neg (by rw [h1']; simp)]
    exact ⟨by decide, by decide, rfl⟩

set_option maxHeartbeats 2000000 in
set_option maxRecDepth 100000 in
theorem widened_any (A : Nat → Addr) (lo hi : Nat) (p q : Int) (w : World) (hS : Sents A w) (hl : FZ lo p) (hh : FZ hi q) (h : p ≤ q) :
    Calls Tryz.prog 159 #[.float .f64 lo, .float .f64 hi] w fun ev w' => SvR A w (wideX p q) ev w' := by
  have H1 : Hid (∀ W, Calls Tryz.prog 179 #[.float .f64 lo] W fun e w' => e = .returned (.float .f64 (plW lo)) ∧ w' = W) := fun W => plainBelow_any lo W hl.lt hl.num
  have H2 : Hid (∀ W, Calls Tryz.prog 179 #[.float .f64 (negW hi)] W fun e w' => e = .returned (.float .f64 (plW (negW hi))) ∧ w' = W) := fun W => plainBelow_any (negW hi) W hh.neg.lt hh.neg.num
  have n0 : ∀ w, (Op.unary .neg (.float .f64 hi)).run Tryz.prog w = .ok (.float .f64 (negW hi)) w := fun w => run_neg_float w _
  have n1 : ∀ w, (Op.unary .neg (.float .f64 (plW (negW hi)))).run Tryz.prog w = .ok (.float .f64 (negW (plW (negW hi)))) w := fun w => run_neg_float w _
  have HM : Hid (∀ W, Below w.heap.size w W → Calls Tryz.prog 55 #[.float .f64 (plW lo), .float .f64 (negW (plW (negW hi)))] W fun ev w' => MakeR A (plW lo) (negW (plW (negW hi))) W ev w') := fun W hb => make_any A _ _ W hl.plW.1.lt hh.neg.plW.1.neg.lt (hS.below hb (Nat.le_refl _))
  have hm  := hid' (make_wide hl hh h)
  have HS := hid' hS
  clear hl hh h hS
  generalize plW (negW hi) = y1 at *
  generalize negW y1 = y2 at *
  generalize negW hi = y0 at *
  generalize plW lo = x1 at *
  unfold MakeR at HM
  generalize makeN x1 y2 = m at *
  obtain ⟨m1, m2, m3⟩ := m
  simp only at hm HM
  go_enter Tryz.func159, Tryz.ntmps159
  go_wp2_with fail
  have hB : Below w.heap.size w (w.alloc (Obj.cells #[.float .f64 0, .float .f64 0] 67)) := (Below.refl _ _).alloc (Nat.le_refl _) _
  have K0 := blk_new w (Obj.cells #[.float .f64 0, .float .f64 0] 67)
  generalize (w.alloc (Obj.cells #[.float .f64 0, .float .f64 0] 67)) = W1 at *
  refine Calls.mono (H1.out _) ?_
  rintro e w1 ⟨rfl, rfl⟩
  go_wp2_with fail
  refine Calls.mono (H2.out _) ?_
  rintro e w1 ⟨rfl, rfl⟩
  clear H1 H2
  go_wp2_with fail
  refine Calls.mono (HM.out _ hB) ?_
  rintro e w2 ⟨rfl, hb2⟩
  have HB : Hid (Below w.heap.size w w2) := hB.trans (hb2.mono hB.size)
  have K := hid' (blk_below K0 hb2)
  clear hB K0 hb2 HM n0 n1
  have lk := lt_of_row K.out
  go_wp2_with fail
  have HB : Hid (Below w.heap.size w (w2.alloc (Obj.cells #[.float .f64 m1, .float .f64 m2] 67))) := HB.out.alloc HB.out.size _
  have K := hid' (blk_old K.out (Obj.cells #[.float .f64 m1, .float .f64 m2] 67))
  have K2 := hid' (blk_new w2 (Obj.cells #[.float .f64 m1, .float .f64 m2] 67))
  have HI := hid' (HS.out.below HB.out (Nat.le_refl _))
  obtain ⟨k0, k1, k2, k3⟩ := blk2 K.out
  obtain ⟨t0, t1, t2, t3⟩ := blk2 K2.out
  have hne : w2.heap.size ≠ w.heap.size := by omega
  generalize w2.heap.size = gt at *
  generalize (w2.alloc (Obj.cells #[.float .f64 m1, .float .f64 m2] 67)) = W3 at *
  have l8 : 8 < w.heap.size := lt_of_cell (HS.out.cell 8 (by omega))
  clear K2 lk HS
  rcases hm.out with ⟨e0, hw⟩ | ⟨e0, e1, hw⟩
  · have e : errV A m3 = .nilIface := by unfold errV; rw [if_pos e0]
    have HW := hid' hw
    have HB : Hid (Below w.heap.size w ((W3.setCell ⟨w.heap.size, 0, none⟩ (.float .f64 m1)).setCell ⟨w.heap.size, 1, none⟩ (.float .f64 m2))) := (HB.out.setCell (by exact Nat.le_refl _) _).setCell (by exact Nat.le_refl _) _
    have K := hid' (blk_store2 K.out (a := .float .f64 m1) (b := .float .f64 m2))
    rw [e]
    clear hm e e0 hw HI
    go_simp
    go_wp2_with fail
    clear k0 k1 k2 k3 t0 t1 t2 t3
    obtain ⟨k0, k1, k2, k3⟩ := blk2 K.out
    generalize ((W3.setCell ⟨w.heap.size, 0, none⟩ (.float .f64 m1)).setCell ⟨w.heap.size, 1, none⟩ (.float .f64 m2)) = W4 at *
    refine bodyPost_ret (v := .tuple #[.agg #[.float .f64 m1, .float .f64 m2], .nilIface]) (by simp [results, Tryz.results159, go_sem, k0, k1]) rfl ?_
    exact ⟨m1, m2, _, rfl, HB.out, .inl ⟨HW.out, rfl⟩⟩
  · have e : errV A m3 = .iface 229 (.pointer (some (A (m3 - 1)))) := by unfold errV; rw [if_neg e0]
    have HW := hid' hw
    rw [e]
    clear hm e e0 e1 hw
    generalize A (m3 - 1) = am at *
    have c8 : W3.cell? ⟨8, 0, none⟩ = some (.iface 229 (.pointer (some (A 8)))) := HI.out.cell 8 (by omega)
    go_simp
    go_wp2_with fail
    have HB : Hid (Below w.heap.size w ((W3.setCell ⟨w.heap.size, 0, none⟩ (.float .f64 0)).setCell ⟨w.heap.size, 1, none⟩ (.float .f64 0)).drew) := ((HB.out.setCell (by exact Nat.le_refl _) _).setCell (by exact Nat.le_refl _) _).drew
    have K : Hid (((W3.setCell ⟨w.heap.size, 0, none⟩ (.float .f64 0)).setCell ⟨w.heap.size, 1, none⟩ (.float .f64 0)).drew.heap[w.heap.size]? = _) := blk_store2 K.out (a := .float .f64 0) (b := .float .f64 0)
    go_region
    all_goals (go_wp2_with fail)
    all_goals (clear k0 k1 k2 k3 t0 t1 t2 t3 c8; obtain ⟨k0, k1, k2, k3⟩ := blk2 K.out; generalize ((W3.setCell ⟨w.heap.size, 0, none⟩ (.float .f64 0)).setCell ⟨w.heap.size, 1, none⟩ (.float .f64 0)).drew = W4 at *)
    all_goals (refine bodyPost_ret (v := .tuple #[.agg #[.float .f64 0, .float .f64 0], .iface 229 (.pointer (some (A 8)))]) (by simp [results, Tryz.results159, go_sem, k0, k1]) rfl ?_; exact ⟨0, 0, _, rfl, HB.out, .inr ⟨HW.out, rfl⟩⟩)
end Go.Proofs.YtonhpkigoplmaaaGreatDoor
