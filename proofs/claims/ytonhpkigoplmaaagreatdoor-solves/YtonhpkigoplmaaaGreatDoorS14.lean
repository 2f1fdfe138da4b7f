/-
  AppW, SolU, SolV, SlvA, SlvB, SlvC, PieceS, PieceU, PieceV, SrchA, KeepC, SrchB, SrchC, PolyE, SrchD, SlvD, SrchE, SrchF, RootW, RootF, LoopB, PolyP, RtsN.
-/
import Derived.Test.YtonhpkigoplmaaaGreatDoorS12
import Derived.Test.YtonhpkigoplmaaaGreatDoorS10
import Derived.Test.YtonhpkigoplmaaaGreatDoorS11
import Derived.RangeFuncNested
import Derived.RangeFuncBound
import Derived.RangeFuncCalls
import Derived.RangeFuncLeaves
import Derived.Shelf.Abstract
import Derived.WalkKit
import Derived.OwnWalkIn
import Derived.TacticsInMore
namespace Go.Proofs.YtonhpkigoplmaaaGreatDoor
open Go.RowKit

theorem append_block {P : Program} (w : World) (base : Nat) (t ty e : TypeId) (i : TypeInfo) (z : Value) (size bytes : Nat) (ht : P.underlying t = some (.slice e)) (hi : P.info? e = some i) (hz : i.zero = some z)
    (hsize : i.size = size) (hby : i.bytes = bytes) (hzs : z.cells.size = size) (hsz : 0 < size)
    (v : Value) (n : Nat) (xs : List Value) (hown : w.ownsRow base e size v n xs)
    (a : Addr) (m c : Nat) (news : List Value) (hm : 0 < m) (hl : news.length = m * size) (hnews : ∀ j u, news[j]? = some u → w.cell? (a.add j) = some u) (h1 : ∀ u ∈ news, u.oneCell' = true)
    (h63 : n + m ≤ maxLen) (hbytes : (n + m) * bytes ≤ 140737488355328) (hbase : base ≤ w.heap.size) :
    ∃ v' w', (Builtin.append_ #[t, t] ty #[v, .slice (some a) m c]).run P w = .ok v' w' ∧ w'.ownsRow base e size v' (n + m) (xs ++ news) ∧ w.grownBy w' v.ownBlock ∧ (v'.ownBlock = v.ownBlock ∨ v'.ownBlock = some w.heap.size) := by
  obtain ⟨v', w', hr, h2, h3, -⟩ := run_append_own (P := P) w base t ty e i z size bytes ht hi hz hsize hby hzs hsz v n xs hown a m c news hl hnews h1 h63 hbytes hbase
  refine ⟨v', w', hr, h2, h3, ?_⟩
  subst hsize
  subst hby
  have hsmall : n + m ≤ 9223372036854775807 := by simp only [maxLen] at h63; omega
  obtain ⟨hx, ⟨rfl, rfl⟩ | ⟨g, cap, cur, rfl, -, hg, hnc, -, hcs, -⟩⟩ := id hown
  · have hr2 := run_append_nil (P := P) w t ty e i z ht hi hz a m c news hl hnews hm (by omega) (by have hb := hbytes; simp only [Nat.zero_add] at hb; omega)
    rw [hr2] at hr
    cases hr
    right
    simp [Value.ownBlock]
  · by_cases hroom : n + m ≤ cap
    · have hr2 := run_append_room (P := P) w t ty e i ht hi g n cap cur hg a m c news hl hnews h1 hroom (by rw [hl, hcs, ← Nat.add_mul]; exact Nat.mul_le_mul_right _ hroom)
      rw [hr2] at hr
      cases hr
      left
      simp [Value.ownBlock]
    · have hr2 := run_append_grow (P := P) w t ty e i z ht hi hz ⟨g, 0, none⟩ n cap xs hx (hown.cells (g := g) rfl) a m c news hl hnews (by omega) (by omega) (growslice_fits (by omega) hbytes)
      rw [hr2] at hr
      cases hr
      right
      simp [Value.ownBlock]

theorem wpList_append_at {P : Program} {w : World} {ops : Array Oper} {rest : List Oper} {o : Oper} {a : Act} {Q : Exit → Act → World → Prop} (hgd : o.guard = none) (s x : Operand) (t : TypeId)
    (ho : o.op = .call { callee := .builtin .append, args := #[s, x], argTypes := #[t, t] })
    (base : Nat) (e : TypeId) (i : TypeInfo) (z : Value) (size bytes : Nat) (ht : P.underlying t = some (.slice e)) (hi : P.info? e = some i) (hz : i.zero = some z)
    (hsize : i.size = size) (hby : i.bytes = bytes) (hzs : z.cells.size = size) (hsz : 0 < size)
    (v : Value) (n : Nat) (xs : List Value) (hs : a.eval s = v) (hown : w.ownsRow base e size v n xs)
    (ad : Addr) (m c : Nat) (news : List Value) (hm : 0 < m) (hx : a.eval x = .slice (some ad) m c) (hl : news.length = m * size) (hnews : ∀ j u, news[j]? = some u → w.cell? (ad.add j) = some u) (h1 : ∀ u ∈ news, u.oneCell' = true)
    (h63 : n + m ≤ maxLen) (hbytes : (n + m) * bytes ≤ 140737488355328) (hbase : base ≤ w.heap.size)
    (h : ∀ v' w', w'.ownsRow base e size v' (n + m) (xs ++ news) → w.grownBy w' v.ownBlock → (v'.ownBlock = v.ownBlock ∨ v'.ownBlock = some w.heap.size) → wpList P ops Q rest (a.put o.dst v') w') : wpList P ops Q (o :: rest) a w := by
  refine wpList_plain hgd fun _ hK => ?_
  obtain ⟨v', w', hr, h2, h3, h4⟩ := append_block (P := P) w base t o.type e i z size bytes ht hi hz hsize hby hzs hsz v n xs hown ad m c news hm hl hnews h1 h63 hbytes hbase
  unfold Oper.wp
  simp [execOp, ho, resolve, invoke, builtin, hs, hx, hr, Result.andThen]
  exact hK _ _ (h v' w' h2 h3 h4)
end Go.Proofs.YtonhpkigoplmaaaGreatDoor
namespace Go.Proofs.YtonhpkigoplmaaaGreatDoor
open Go.RowKit Go.Extern Ieee

theorem read_plA {d : Nat} (h1 : 553942754166571008 ≤ d) (h2 : d ≤ 8660422083433463808) : double.read d = .number false (d % 4503599627370496 + 4503599627370496) (((d / 4503599627370496 : Nat) : Int) - 1075) := by
  have hsw : double.signWeight = 9223372036854775808 := rfl
  have hbn : double.binade = 4503599627370496 := rfl
  have hir : double.infRung = 9218868437227405312 := rfl
  have hlp : double.leastPlace = -1074 := rfl
  have hm : d % 9223372036854775808 = d := by omega
  have hd : (d / 9223372036854775808 % 2 == 1) = false := by
    rw [show d / 9223372036854775808 % 2 = 0 by omega]; rfl
  unfold Format.read
  simp only [hsw, hbn, hir, hlp, hm, hd]
  rw [if_neg (by omega), if_pos (by omega)]
  congr 1
  · omega
  · omega

/-- A quotient, held against one half. -/
theorem dv_half {x y : Nat} (hx1 : 553942754166571008 ≤ x) (hx2 : x ≤ 8660422083433463808) (hy1 : 553942754166571008 ≤ y) (hy2 : y ≤ 8660422083433463808) :
    double.div x y = some (dvW x y) ∧ NN (dvW x y) ∧ (y ≤ x + 4503599627370496 → 4602678819172646912 ≤ dvW x y) ∧ (x + 4503599627370496 ≤ y → dvW x y ≤ 4602678819172646912) := by
  have rx := read_plA hx1 hx2
  have ry := read_plA hy1 hy2
  have x1 : 4503599627370496 ≤ x % 4503599627370496 + 4503599627370496 := by omega
  have x2 : x % 4503599627370496 + 4503599627370496 < 9007199254740992 := by omega
  have y1 : 4503599627370496 ≤ y % 4503599627370496 + 4503599627370496 := by omega
  have y2 : y % 4503599627370496 + 4503599627370496 < 9007199254740992 := by omega
  have hdv := div_plain rx ry x1 x2 y1 y2
  have hD : dvW x y = double.nearest (false ^^ false) (q1 (x % 4503599627370496 + 4503599627370496) (y % 4503599627370496 + 4503599627370496)) (((x / 4503599627370496 : Nat) : Int) - 1075 - (((y / 4503599627370496 : Nat) : Int) - 1075) - 55) := by unfold dvW; rw [hdv, Option.getD_some]
  obtain ⟨b1, b2⟩ := q1_bl x1 x2 y1 y2
  obtain ⟨c1, c2⟩ := q1_bounds x1 x2 y1 y2
  have hq : q1 (x % 4503599627370496 + 4503599627370496) (y % 4503599627370496 + 4503599627370496) = 2 * ((x % 4503599627370496 + 4503599627370496) * 2 ^ 54 / (y % 4503599627370496 + 4503599627370496)) + if (x % 4503599627370496 + 4503599627370496) * 2 ^ 54 % (y % 4503599627370496 + 4503599627370496) = 0 then 0 else 1 := rfl
  have p54 : (2 : Nat) ^ 54 = 18014398509481984 := by decide
  have p55 : (2 : Nat) ^ 55 = 36028797018963968 := by decide
  have big : x % 4503599627370496 ≥ y % 4503599627370496 → bl (q1 (x % 4503599627370496 + 4503599627370496) (y % 4503599627370496 + 4503599627370496)) = 56 := by
    intro h
    have : 18014398509481984 ≤ (x % 4503599627370496 + 4503599627370496) * 2 ^ 54 / (y % 4503599627370496 + 4503599627370496) := by
      rw [Nat.le_div_iff_mul_le (by omega), p54, Nat.mul_comm]
      exact Nat.mul_le_mul_right _ (by omega)
    have : 55 < bl (q1 (x % 4503599627370496 + 4503599627370496) (y % 4503599627370496 + 4503599627370496)) := bl_gt (by rw [p55, hq]; omega)
    omega
  have small : x % 4503599627370496 < y % 4503599627370496 → bl (q1 (x % 4503599627370496 + 4503599627370496) (y % 4503599627370496 + 4503599627370496)) = 55 := by
    intro h
    have : (x % 4503599627370496 + 4503599627370496) * 2 ^ 54 / (y % 4503599627370496 + 4503599627370496) < 18014398509481984 := by
      rw [Nat.div_lt_iff_lt_mul (by omega), p54, Nat.mul_comm]
      exact Nat.mul_lt_mul_of_pos_left (by omega) (by omega)
    have : bl (q1 (x % 4503599627370496 + 4503599627370496) (y % 4503599627370496 + 4503599627370496)) ≤ 55 := bl_le (by rw [p55, hq]; split <;> omega)
    omega
  have same : x % 4503599627370496 = y % 4503599627370496 → mf (q1 (x % 4503599627370496 + 4503599627370496) (y % 4503599627370496 + 4503599627370496)) = 4503599627370496 ∧ nup (q1 (x % 4503599627370496 + 4503599627370496) (y % 4503599627370496 + 4503599627370496)) = false := by
    intro h
    have e : q1 (x % 4503599627370496 + 4503599627370496) (y % 4503599627370496 + 4503599627370496) = 36028797018963968 := by
      rw [hq, h, Nat.mul_div_cancel_left _ (by omega), Nat.mul_mod_right, if_pos rfl, p54]
    rw [e]; decide
  generalize hQ : q1 (x % 4503599627370496 + 4503599627370496) (y % 4503599627370496 + 4503599627370496) = Q at *
  have hQ0 : Q ≠ 0 := by
    intro hc
    rw [hc] at b1
    have : bl 0 = 0 := rfl
    omega
  obtain ⟨m1, m2⟩ := mf_bounds (Nat.pos_of_ne_zero hQ0)
  obtain ⟨R, r1, r2, r3, r4, r5⟩ := nearest_any (false ^^ false) (((x / 4503599627370496 : Nat) : Int) - 1075 - (((y / 4503599627370496 : Nat) : Int) - 1075) - 55) hQ0
  have hR : dvW x y = R := by rw [hD, r1]; unfold wd; simp
  have hnup : (0 : Int) ≤ (if nup Q then 1 else 0) ∧ (if nup Q then (1 : Int) else 0) ≤ 1 := by split <;> omega
  rw [hR]
  refine ⟨by rw [hdv, ← hD, hR], ⟨r2⟩, fun h => ?_, fun h => ?_⟩
  · by_cases hE : 1023 < ((x / 4503599627370496 : Nat) : Int) - 1075 - (((y / 4503599627370496 : Nat) : Int) - 1075) - 55 + bl Q
    · have := r5 hE; omega
    · have hge : 0 ≤ ((x / 4503599627370496 : Nat) : Int) - 1075 - (((y / 4503599627370496 : Nat) : Int) - 1075) - 55 + bl Q := by
        by_cases hm : x % 4503599627370496 ≥ y % 4503599627370496
        · have := big hm; omega
        · have := small (by omega); omega
      have := r3 (by omega) (by omega)
      unfold rung at this
      omega
  · by_cases hE : ((x / 4503599627370496 : Nat) : Int) - 1075 - (((y / 4503599627370496 : Nat) : Int) - 1075) - 55 + bl Q < -1021
    · have := r4 hE; omega
    · by_cases hm : x % 4503599627370496 = y % 4503599627370496
      · have hb := big (by omega)
        obtain ⟨s1, s2⟩ := same hm
        have := r3 (by omega) (by omega)
        rw [s2] at this
        simp only [Bool.false_eq_true, if_false] at this
        unfold rung at this
        rw [s1, hb] at this
        omega
      · have hlt : ((x / 4503599627370496 : Nat) : Int) - 1075 - (((y / 4503599627370496 : Nat) : Int) - 1075) - 55 + bl Q ≤ -1 := by
          by_cases hm2 : x % 4503599627370496 ≥ y % 4503599627370496
          · have := big hm2; omega
          · have := small (by omega); omega
        have := r3 (by omega) (by omega)
        unfold rung at this
        omega

theorem dv_zero {x : Nat} (hx1 : 553942754166571008 ≤ x) (hx2 : x ≤ 8660422083433463808) : double.div x 0 = some 9218868437227405312 ∧ dvW x 0 = 9218868437227405312 := by
  have rx := read_plA hx1 hx2
  have r0 : double.read 0 = .number false 0 (-1074) := rfl
  have h : double.div x 0 = some 9218868437227405312 := by
    unfold Format.div
    rw [rx, r0]
    simp only [Datum.quotient]
    rw [if_pos trivial, if_neg (by omega)]
    rfl
  exact ⟨h, by unfold dvW; rw [h]; rfl⟩

/-- Amounts' words and their numbers. -/
theorem plA_val {d : Nat} (h : PlA d) : valW d = pq (d : Int) := by
  have hp : plP (d : Int) = true := by unfold plP; unfold PlA at h; exact decide_eq_true (by omega)
  have := pq_word hp
  rwa [show wdP (d : Int) = d by unfold wdP wd; rw [decide_eq_false (by omega)]; simp] at this

theorem rv_dbl (r : Int) : rvQ (r + 4503599627370496) = 2 * rvQ r := by
  obtain ⟨m, e, h1, h2, h3⟩ := rv_parts r
  rw [rv_at h1 h2 h3, rv_at (r := r + 4503599627370496) (m := m) (e := e + 1) (by omega) h2 h3, pw_add, pw_one]
  grind

theorem plA_half {x y : Nat} (hx : PlA x) (hx0 : x ≠ 0) (hy : PlA y) (hy0 : y ≠ 0) : (valW y ≤ 2 * valW x → y ≤ x + 4503599627370496) ∧ (2 * valW x ≤ valW y → x + 4503599627370496 ≤ y) := by
  rw [plA_val hx, plA_val hy]
  have e1 : pq (x : Int) = rvQ (x : Int) := by unfold pq; rw [if_neg (by omega), if_neg (by omega)]
  have e2 : pq (y : Int) = rvQ (y : Int) := by unfold pq; rw [if_neg (by omega), if_neg (by omega)]
  have e3 : 2 * rvQ (x : Int) = pq ((x : Int) + 4503599627370496) := by unfold pq; rw [if_neg (by omega), if_neg (by omega), rv_dbl]
  rw [e1, e3, e2, ← show pq (y : Int) = rvQ (y : Int) from e2]
  constructor
  · intro h
    apply Decidable.byContradiction
    intro hc
    have := pq_lt (p := (x : Int) + 4503599627370496) (q := (y : Int)) (by omega)
    grind
  · intro h
    apply Decidable.byContradiction
    intro hc
    have := pq_lt (p := (y : Int)) (q := (x : Int) + 4503599627370496) (by omega)
    grind

theorem plA_le {x y : Nat} (hx : PlA x) (hy : PlA y) : valW x ≤ valW y ↔ x ≤ y := by
  rw [plA_val hx, plA_val hy]
  constructor
  · intro h
    apply Decidable.byContradiction
    intro hc
    have := pq_lt (p := (y : Int)) (q := (x : Int)) (by omega)
    grind
  · intro h; exact pq_mono (by omega)

theorem plA_min {x y : Nat} (hx : PlA x) (hy : PlA y) : PlA (min x y) := by unfold PlA at *; omega
theorem plA_max {x y : Nat} (hx : PlA x) (hy : PlA y) : PlA (max x y) := by unfold PlA at *; omega

/-- The least amount's word. -/
theorem ls_ok {a : Nat × Nat} (i : ivW a) : PlA (lsW a) ∧ (¬ memW a 0 → lsW a ≠ 0 ∧ (valW (lsW a) = ab (valW a.1) ∨ valW (lsW a) = ab (valW a.2)) ∧ valW (lsW a) ≤ ab (valW a.1) ∧ valW (lsW a) ≤ ab (valW a.2)) := by
  obtain ⟨p1, v1⟩ := abs_plain i.lt1 i.p1
  obtain ⟨p2, v2⟩ := abs_plain i.lt2 i.p2
  have hm := (p1.nn.fmin p2.nn).1
  unfold lsW
  by_cases h : holdsT (plT a.1) (plT a.2) = true
  · rw [if_pos h]
    exact ⟨.inl rfl, fun hc => absurd ((holds_val a).1 h) hc⟩
  · rw [if_neg h, hm]
    refine ⟨plA_min p1 p2, fun hn => ?_⟩
    have hs := out_sides i hn
    have hle := Iv.vle i
    have n1 : absW a.1 ≠ 0 := by
      intro hc
      rw [hc] at v1
      have z : valW 0 = 0 := val_zero rfl
      have := ab_pos (x := valW a.1) (by grind)
      grind
    have n2 : absW a.2 ≠ 0 := by
      intro hc
      rw [hc] at v2
      have z : valW 0 = 0 := val_zero rfl
      have := ab_pos (x := valW a.2) (by grind)
      grind
    refine ⟨by omega, ?_, ?_, ?_⟩
    · rcases (show min (absW a.1) (absW a.2) = absW a.1 ∨ min (absW a.1) (absW a.2) = absW a.2 by omega) with h | h
      · left; rw [h, v1]
      · right; rw [h, v2]
    · rw [← v1]; exact (plA_le (plA_min p1 p2) p1).2 (by omega)
    · rw [← v2]; exact (plA_le (plA_min p1 p2) p2).2 (by omega)

theorem gt_ok {a : Nat × Nat} (i : ivW a) : PlA (gtW a) ∧ (valW (gtW a) = ab (valW a.1) ∨ valW (gtW a) = ab (valW a.2)) ∧ ab (valW a.1) ≤ valW (gtW a) ∧ ab (valW a.2) ≤ valW (gtW a) := by
  obtain ⟨p1, v1⟩ := abs_plain i.lt1 i.p1
  obtain ⟨p2, v2⟩ := abs_plain i.lt2 i.p2
  have hm := (p1.nn.fmax p2.nn).1
  unfold gtW
  rw [hm]
  refine ⟨plA_max p1 p2, ?_, ?_, ?_⟩
  · rcases (show max (absW a.1) (absW a.2) = absW a.1 ∨ max (absW a.1) (absW a.2) = absW a.2 by omega) with h | h
    · left; rw [h, v1]
    · right; rw [h, v2]
  · rw [← v1]; exact (plA_le p1 (plA_max p1 p2)).2 (by omega)
  · rw [← v2]; exact (plA_le p2 (plA_max p1 p2)).2 (by omega)

/-- Any quotient of a least amount: a word that is no NaN. -/
theorem dv_nn {x y : Nat} (hx : PlA x) (hx0 : x ≠ 0) (hy : PlA y) : double.div x y = some (dvW x y) ∧ NN (dvW x y) := by
  have hx' : 553942754166571008 ≤ x ∧ x ≤ 8660422083433463808 := by unfold PlA at hx; omega
  by_cases hy0 : y = 0
  · subst hy0
    obtain ⟨h1, h2⟩ := dv_zero hx'.1 hx'.2
    rw [h2]; exact ⟨h1, ⟨by omega⟩⟩
  · have hy' : 553942754166571008 ≤ y ∧ y ≤ 8660422083433463808 := by unfold PlA at hy; omega
    have := dv_half hx'.1 hx'.2 hy'.1 hy'.2
    exact ⟨this.1, this.2.1⟩

theorem shJ_good {row : Nat → Nat × Nat} {least : Nat} (hl : PlA least) (hl0 : least ≠ 0) : ∀ (f j sh : Nat), NN sh → 4602678819172646912 ≤ sh → (∀ x, j ≤ x → x < j + f → ivW (row x) ∧ valW (gtW (row x)) ≤ 2 * valW least) → ∃ s, shJ row least 0 f j sh = some s ∧ NN s ∧ 4602678819172646912 ≤ s
  | 0, j, sh, h1, h2, _ => ⟨sh, rfl, h1, h2⟩
  | f + 1, j, sh, h1, h2, h => by
    obtain ⟨iv, hg⟩ := h j (by omega) (by omega)
    obtain ⟨g1, _⟩ := gt_ok iv
    have hd : NN (dvW least (gtW (row j))) ∧ 4602678819172646912 ≤ dvW least (gtW (row j)) := by
      have hx' : 553942754166571008 ≤ least ∧ least ≤ 8660422083433463808 := by unfold PlA at hl; omega
      by_cases hy0 : gtW (row j) = 0
      · rw [hy0, (dv_zero hx'.1 hx'.2).2]; exact ⟨⟨by omega⟩, by omega⟩
      · have hy' : 553942754166571008 ≤ gtW (row j) ∧ gtW (row j) ≤ 8660422083433463808 := by unfold PlA at g1; omega
        obtain ⟨_, k1, k2, _⟩ := dv_half hx'.1 hx'.2 hy'.1 hy'.2
        exact ⟨k1, k2 ((plA_half hl hl0 g1 hy0).1 hg)⟩
    obtain ⟨m1, m2⟩ := h1.fmin hd.1
    unfold shJ
    have k0 : kw 0 = 0 := rfl
    rw [if_neg (by rw [m2.kw, k0, m1]; omega)]
    exact shJ_good hl hl0 f (j + 1) _ m2 (by rw [m1]; omega) (fun x a b => h x (by omega) (by omega))

theorem shJ_bad {row : Nat → Nat × Nat} {least best : Nat} (hl : PlA least) (hl0 : least ≠ 0) (hb : NN best) (hb2 : 4602678819172646912 ≤ best) {i : Nat} (hi : valW (gtW (row i)) ≠ 0 ∧ 2 * valW least ≤ valW (gtW (row i))) : ∀ (f j sh : Nat), NN sh → (∀ x, j ≤ x → x < j + f → ivW (row x)) → j ≤ i → i < j + f → shJ row least best f j sh = none
  | 0, j, sh, _, _, _, _ => by omega
  | f + 1, j, sh, h1, h, hij, hif => by
    have iv := h j (by omega) (by omega)
    obtain ⟨g1, _⟩ := gt_ok iv
    have hd := (dv_nn hl hl0 g1).2
    obtain ⟨m1, m2⟩ := h1.fmin hd
    unfold shJ
    by_cases hc : kw (fmin sh (dvW least (gtW (row j)))) ≤ kw best
    · rw [if_pos hc]
    · rw [if_neg hc]
      have hne : j ≠ i := by
        rintro rfl
        apply hc
        rw [m2.kw, hb.kw, m1]
        have hx' : 553942754166571008 ≤ least ∧ least ≤ 8660422083433463808 := by unfold PlA at hl; omega
        have hy0 : gtW (row j) ≠ 0 := fun hz => hi.1 (by rw [hz]; exact val_zero rfl)
        have hy' : 553942754166571008 ≤ gtW (row j) ∧ gtW (row j) ≤ 8660422083433463808 := by unfold PlA at g1; omega
        obtain ⟨_, _, _, k3⟩ := dv_half hx'.1 hx'.2 hy'.1 hy'.2
        have := k3 ((plA_half hl hl0 g1 hy0).2 hi.2)
        omega
      exact shJ_bad hl hl0 hb hb2 hi f (j + 1) _ m2 (fun x a b => h x (by omega) (by omega)) (by omega) (by omega)

theorem pvI_skip {M : Nat → Nat → Nat × Nat} {n k best : Nat} {a : Option Nat} : ∀ (f i : Nat), (∀ y, i ≤ y → y < i + f → lsW (M y k) = 0 ∨ shJ (M y) (lsW (M y k)) best (n - k) k 4607182418800017408 = none) → pvI M n k f i best a = a
  | 0, _, _ => rfl
  | f + 1, i, h => by
    unfold pvI
    have r := pvI_skip (M := M) (n := n) (k := k) (best := best) (a := a) f (i + 1) (fun y a b => h y (by omega) (by omega))
    by_cases h0 : lsW (M i k) = 0
    · rw [if_pos h0]; exact r
    · rw [if_neg h0, (h i (by omega) (by omega)).resolve_left h0]; exact r
end Go.Proofs.YtonhpkigoplmaaaGreatDoor
namespace Go.Proofs.YtonhpkigoplmaaaGreatDoor
open Go.RowKit Go.Extern Ieee

def loW (a : Nat × Nat) : Rat := valW a.1
def hiW (a : Nat × Nat) : Rat := valW a.2

theorem ends_of {a : Nat × Nat} {i : Nat} (h : i = a.1 ∨ i = a.2) : isEnd loW hiW a (valW i) := by
  rcases h with rfl | rfl
  · exact .inl rfl
  · exact .inr rfl

theorem corn_near {f : Bool × Nat × Int → Bool × Nat × Int → Bool × Nat × Int} {a b : Nat × Nat} {g : Rat → Rat → Rat} (hb : ∀ i j, (i = a.1 ∨ i = a.2) → (j = b.1 ∨ j = b.2) → BR (f (plT i) (plT j)) (g (valW i) (valW j))) {B : Rat} (hB : ∀ x y, isEnd loW hiW a x → isEnd loW hiW b y → bd B (g x y)) (hG : B ≤ pw 899) :
    ∃ c, cornX f a b = some c ∧ ivW c ∧ ∀ e, isEnd loW hiW c e → ∃ x y, isEnd loW hiW a x ∧ isEnd loW hiW b y ∧ Rnd (pw (-900)) e (g x y) := by
  obtain ⟨c, h1, h2, ⟨i, j, hi, hj, h3⟩, ⟨k, l, hk, hl, h4⟩⟩ := (corn_ends (f := f) (a := a) (b := b) (g := fun i j => g (valW i) (valW j)) hb).2 B (fun i j hi hj => hB _ _ (ends_of hi) (ends_of hj)) hG
  refine ⟨c, h1, h2, fun e he => ?_⟩
  rcases he with rfl | rfl
  · exact ⟨_, _, ends_of hi, ends_of hj, h3⟩
  · exact ⟨_, _, ends_of hk, ends_of hl, h4⟩

theorem near : Near loW hiW (pw (-900)) (pw 899) muX suX quX pvX ivW where
  mu := fun a b B _ _ hB hG => corn_near (f := prodN) (g := fun x y => x * y) (fun i j _ _ => br_mul i j) hB hG
  su := fun a b B ia ib hB hG => by
    obtain ⟨q1, r1⟩ := (end_low (br_sub a.1 b.2)).2 (bd_le (hB _ _ (.inl rfl) (.inr rfl)) hG)
    obtain ⟨q2, r2⟩ := (end_high (br_sub a.2 b.1)).2 (bd_le (hB _ _ (.inr rfl) (.inl rfl)) hG)
    have hc : suX a b = some (wdP (pbP (posV (sumT (plT a.1) (negT (plT b.2))) (-1))), wdP (paP (posV (sumT (plT a.2) (negT (plT b.1))) 1))) := by unfold suX wideX; rw [if_pos ⟨q1, q2⟩]
    obtain ⟨iv, v1, v2, _, _⟩ := wide_some hc (su_le ia ib)
    refine ⟨_, hc, iv, fun e he => ?_⟩
    rcases he with rfl | rfl
    · exact ⟨_, _, .inl rfl, .inr rfl, by show Rnd _ (valW _) _; rw [v1]; exact r1⟩
    · exact ⟨_, _, .inr rfl, .inl rfl, by show Rnd _ (valW _) _; rw [v2]; exact r2⟩
  qo := fun a b B ia ib h0 hB hG => corn_near (f := quoN) (g := fun x y => x / y) (br_quoW ia ib h0) hB hG
  pv := fun M n k hk oks h => by
    obtain ⟨L, hL, hs, ht⟩ := h.here
    have ikk := oks k k (Nat.le_refl _) hk (Nat.le_refl _) hk
    have out : ¬ memW (M k k) 0 := by
      rintro ⟨m1, m2⟩
      rcases hs with hs | hs
      · have := hs _ (.inl rfl)
        unfold loW at this; grind
      · have := hs _ (.inr rfl)
        unfold hiW at this; grind
    obtain ⟨p1, p2⟩ := ls_ok ikk
    obtain ⟨l0, l1, _, _⟩ := p2 out
    have hLv : L ≤ valW (lsW (M k k)) := by
      have key : ∀ x, isEnd loW hiW (M k k) x → L ≤ ab x := by
        intro x hx
        rcases hs with hs | hs
        · have := hs x hx
          rcases ab_cases x with ⟨_, e⟩ | ⟨_, e⟩ <;> grind
        · have := hs x hx
          rcases ab_cases x with ⟨_, e⟩ | ⟨_, e⟩ <;> grind
      rcases l1 with e | e
      · rw [e]; exact key _ (.inl rfl)
      · rw [e]; exact key _ (.inr rfl)
    obtain ⟨s, g1, g2, g3⟩ := shJ_good (row := M k) p1 l0 (n - k) k 4607182418800017408 ⟨by decide⟩ (by decide) (fun x a b => by
      have ix := oks k x (Nat.le_refl _) hk a (by omega)
      refine ⟨ix, ?_⟩
      obtain ⟨_, e, _, _⟩ := gt_ok ix
      rcases e with e | e
      · have := ab_le (ht x _ a (by omega) (.inl rfl))
        rw [e]; unfold loW at this; grind
      · have := ab_le (ht x _ a (by omega) (.inr rfl))
        rw [e]; unfold hiW at this; grind)
    obtain ⟨f, hf⟩ : ∃ f, n - k = f + 1 := ⟨n - k - 1, by omega⟩
    unfold pvX
    rw [hf]
    unfold pvI
    rw [if_neg l0, g1]
    refine pvI_skip _ _ (fun i a b => ?_)
    have ii := oks i i (by omega) (by omega) (by omega) (by omega)
    have ik := oks i k (by omega) (by omega) (Nat.le_refl _) hk
    obtain ⟨Li, hLi, h1, h2⟩ := h.there i (by omega) (by omega)
    by_cases hz : lsW (M i k) = 0
    · exact .inl hz
    · right
      obtain ⟨q1, q2⟩ := ls_ok ik
      have outi : ¬ memW (M i k) 0 := by
        intro hm
        apply hz
        unfold lsW
        rw [if_pos ((holds_val _).2 hm)]
      obtain ⟨_, e, _, _⟩ := q2 outi
      have hle : valW (lsW (M i k)) ≤ Li := by
        rcases e with e | e
        · rw [e]; exact ab_le (h1 _ (.inl rfl))
        · rw [e]; exact ab_le (h1 _ (.inr rfl))
      obtain ⟨_, _, k1, _⟩ := gt_ok ii
      have hge : 2 * Li ≤ valW (gtW (M i i)) := by
        have : 2 * Li ≤ ab (valW (M i i).1) := by
          rcases h2 with h2 | h2
          · have := h2 _ (.inl rfl)
            unfold loW at this
            rcases ab_cases (valW (M i i).1) with ⟨_, e⟩ | ⟨_, e⟩ <;> grind
          · have := h2 _ (.inl rfl)
            unfold loW at this
            rcases ab_cases (valW (M i i).1) with ⟨_, e⟩ | ⟨_, e⟩ <;> grind
        grind
      exact shJ_bad q1 hz g2 g3 (i := i) ⟨by grind, by grind⟩ (n - k) k _ ⟨by decide⟩ (fun x c d => oks i x (by omega) (by omega) c (by omega)) (by omega) (by omega)
end Go.Proofs.YtonhpkigoplmaaaGreatDoor
namespace Go.Proofs.YtonhpkigoplmaaaGreatDoor
open Go.RowKit Go.Extern Ieee
attribute [local go_sem] run_store_float

theorem ordK {d f : Nat} (h1 : d < 18446744073709551616) (h2 : d % 9223372036854775808 ≤ 9218868437227405312) (h3 : f < 18446744073709551616) (h4 : f % 9223372036854775808 ≤ 9218868437227405312) : double.order d f = some (compare (kw d) (kw f)) := by
  have := order_wd (s := decide (9223372036854775808 ≤ d)) (t := decide (9223372036854775808 ≤ f)) h2 h4
  rwa [wd_self h1, wd_self h3] at this

/-- What plainBelow gives, by words. -/
def plW (x : Nat) : Nat := if 0 < kw x ∧ kw x < 553942754166571008 then 0 else if kw x < 0 ∧ -553942754166571008 < kw x then 9777314791021346816 else x

set_option maxHeartbeats 1000000 in
set_option maxRecDepth 100000 in
theorem plainBelow_any (x : Nat) (w : World) (h1 : x < 18446744073709551616) (h2 : x % 9223372036854775808 ≤ 9218868437227405312) :
    Calls Tryz.prog 179 #[.float .f64 x] w fun e w' => e = .returned (.float .f64 (plW x)) ∧ w' = w := by
  have o1 : FloatKind.f64.format.order x 0 = some (compare (kw x) (kw 0)) := ordK h1 h2 (by decide) (by decide)
  have o2 : FloatKind.f64.format.order x 553942754166571008 = some (compare (kw x) (kw 553942754166571008)) := ordK h1 h2 (by decide) (by decide)
  have o3 : FloatKind.f64.format.order x 9777314791021346816 = some (compare (kw x) (kw 9777314791021346816)) := ordK h1 h2 (by decide) (by decide)
  have k0 : kw 0 = 0 := rfl
  have k1 : kw 553942754166571008 = 553942754166571008 := rfl
  have k2 : kw 9777314791021346816 = -553942754166571008 := rfl
  rw [k0] at o1
  rw [k1] at o2
  rw [k2] at o3
  clear k0 k1 k2 h1 h2
  have hp : Hid (plW x = if 0 < kw x ∧ kw x < 553942754166571008 then 0 else if kw x < 0 ∧ -553942754166571008 < kw x then 9777314791021346816 else x) := rfl
  generalize plW x = y at *
  generalize kw x = k at *
  rcases (show 553942754166571008 ≤ k ∨ (0 < k ∧ k < 553942754166571008) ∨ k = 0 ∨ (k < 0 ∧ -553942754166571008 < k) ∨ k ≤ -553942754166571008 by omega) with h | h | h | h | h
  · have e : Hid (y = x) := by show y = x; rw [hp.out, if_neg (by omega), if_neg (by omega)]
    rw [cmp_gt' (show (0 : Int) < k by omega)] at o1
    rcases (show 553942754166571008 < k ∨ k = 553942754166571008 by omega) with h' | h'
    · rw [cmp_gt' h'] at o2
      clear hp h h' o3
      go_enter Tryz.func179, Tryz.ntmps179
      go_wp2
      go_ret
      (rw [e.out]; exact ⟨rfl, rfl⟩)
    · rw [cmp_eq' h'] at o2
      clear hp h h' o3
      go_enter Tryz.func179, Tryz.ntmps179
      go_wp2
      go_ret
      (rw [e.out]; exact ⟨rfl, rfl⟩)
  · have e : Hid (y = 0) := by show y = 0; rw [hp.out, if_pos h]
    rw [cmp_gt' h.1] at o1
    rw [cmp_lt' h.2] at o2
    clear hp h o3
    go_enter Tryz.func179, Tryz.ntmps179
    go_wp2
    go_ret
    (rw [e.out]; exact ⟨rfl, rfl⟩)
  · have e : Hid (y = x) := by show y = x; rw [hp.out, if_neg (by omega), if_neg (by omega)]
    rw [cmp_eq' h] at o1
    clear hp h o2 o3
    go_enter Tryz.func179, Tryz.ntmps179
    go_wp2
    go_ret
    (rw [e.out]; exact ⟨rfl, rfl⟩)
  · have e : Hid (y = 9777314791021346816) := by show y = 9777314791021346816; rw [hp.out, if_neg (by omega), if_pos h]
    rw [cmp_lt' h.1] at o1
    rw [cmp_gt' h.2] at o3
    clear hp h o2
    go_enter Tryz.func179, Tryz.ntmps179
    go_wp2
    go_ret
    (rw [e.out]; exact ⟨rfl, rfl⟩)
  · have e : Hid (y = x) := by show y = x; rw [hp.out, if_neg (by omega), if_neg (by omega)]
    rw [cmp_lt' (show k < (0 : Int) by omega)] at o1
    rcases (show k < -553942754166571008 ∨ k = -553942754166571008 by omega) with h' | h'
    · rw [cmp_lt' h'] at o3
      clear hp h h' o2
      go_enter Tryz.func179, Tryz.ntmps179
      go_wp2
      go_ret
      (rw [e.out]; exact ⟨rfl, rfl⟩)
    · rw [cmp_eq' h'] at o3
      clear hp h h' o2
      go_enter Tryz.func179, Tryz.ntmps179
      go_wp2
      go_ret
      (rw [e.out]; exact ⟨rfl, rfl⟩)

/-- A word at a place; 0 may have a sign. -/
structure FZ (d : Nat) (p : Int) : Prop where
  lt : d < 18446744073709551616
  num : d % 9223372036854775808 ≤ 9218868437227405312
  pos : posF d = p

theorem FR.fz {d : Nat} {p : Int} (h : FR d p) : FZ d p := ⟨h.lt, h.num, h.pos⟩

theorem FZ.plW {d : Nat} {p : Int} (h : FZ d p) : FZ (plW d) (pbP p) ∧ (d ≠ 9223372036854775808 → plW d ≠ 9223372036854775808) := by
  have hk := posF_kw d
  rw [h.pos] at hk
  have hlt := h.lt
  have hnum := h.num
  have hka : kw d = if 9223372036854775808 ≤ d then -((d % 9223372036854775808 : Nat) : Int) else ((d % 9223372036854775808 : Nat) : Int) := kw_cases d
  unfold Go.Proofs.YtonhpkigoplmaaaGreatDoor.plW
  have c := clampR_cases ((kw d).natAbs : Int)
  have cb := clampR_bounds ((kw d).natAbs : Int)
  by_cases h1 : 0 < kw d ∧ kw d < 553942754166571008
  · rw [if_pos h1]
    rw [if_neg (by omega), decide_eq_false (by omega)] at hk
    unfold sgI at hk
    rw [if_neg Bool.false_ne_true] at hk
    have hp : pbP p = 0 := by unfold pbP; rw [if_pos (by omega)]
    rw [hp]
    exact ⟨⟨by decide, by decide, rfl⟩, fun _ => by decide⟩
  · rw [if_neg h1]
    by_cases h2 : kw d < 0 ∧ -553942754166571008 < kw d
    · rw [if_pos h2]
      rw [if_neg (by omega), decide_eq_true (by omega)] at hk
      unfold sgI at hk
      rw [if_pos rfl] at hk
      have hp : pbP p = -553942754166571008 := by unfold pbP; rw [if_neg (by omega), if_pos (by omega)]
      rw [hp]
      exact ⟨⟨by decide, by decide, rfl⟩, fun _ => by decide⟩
    · rw [if_neg h2]
      have hp : pbP p = p := by
        unfold pbP
        by_cases h0 : kw d = 0
        · rw [if_pos h0] at hk
          rw [if_neg (by omega), if_neg (by omega)]
        · rw [if_neg h0] at hk
          unfold sgI at hk
          by_cases hn : kw d < 0
          · rw [decide_eq_true hn, if_pos rfl] at hk
            rw [if_neg (by omega), if_neg (by omega)]
          · rw [decide_eq_false hn, if_neg Bool.false_ne_true] at hk
            rw [if_neg (by omega), if_neg (by omega)]
      rw [hp]
      exact ⟨h, fun hz => hz⟩

theorem FZ.neg {d : Nat} {p : Int} (h : FZ d p) : FZ (negW d) (-p) := by
  have hlt := h.lt
  have hnum := h.num
  have e := negW_eq hlt
  have e1 : negW d % 9223372036854775808 = d % 9223372036854775808 := by rw [e]; split <;> omega
  refine ⟨negW_lt hlt, by rw [e1]; exact hnum, ?_⟩
  rw [← h.pos]
  unfold posF
  rw [e1]
  by_cases h0 : d % 9223372036854775808 = 0
  · rw [if_pos h0, if_pos h0]; rfl
  · rw [if_neg h0, if_neg h0]
    unfold sgI
    by_cases hd : 9223372036854775808 ≤ d
    · have : ¬ 9223372036854775808 ≤ negW d := by rw [e, if_pos hd]; omega
      rw [decide_eq_true hd, decide_eq_false this, if_pos rfl, if_neg Bool.false_ne_true, Int.neg_neg]
    · have : 9223372036854775808 ≤ negW d := by rw [e, if_neg hd]; omega
      rw [decide_eq_false hd, decide_eq_true this, if_pos rfl, if_neg Bool.false_ne_true]

theorem FZ.posW {d : Nat} {p : Int} (h : FZ d p) : FR (posW d) p := by
  have hlt := h.lt
  have hnum := h.num
  refine ⟨posW_lt hlt, posW_nz d, ?_, ?_⟩
  · unfold Go.Proofs.YtonhpkigoplmaaaGreatDoor.posW; split
    · decide
    · exact hnum
  · rw [← h.pos]
    unfold Go.Proofs.YtonhpkigoplmaaaGreatDoor.posW
    split
    · rename_i h0
      unfold posF
      rw [if_pos h0]; rfl
    · rfl

theorem FZ.plain {d : Nat} {p : Int} (h : FZ d p) : (plainN d).isSome = plP p := by
  have := h.posW.plain
  rwa [plainN_posW d h.lt] at this
end Go.Proofs.YtonhpkigoplmaaaGreatDoor
namespace Go.Proofs.YtonhpkigoplmaaaGreatDoor
open Go.RowKit Go.Extern Ieee
attribute [local go_sem] run_store_float

theorem hid' {p : Prop} (h : p) : Hid p := h

/-- What an operation of Solve hands back. -/
def SvR (A : Nat → Addr) (w : World) (r : Option (Nat × Nat)) (ev : Ending) (w' : World) : Prop :=
  ∃ lo hi v, ev = .returned (.tuple #[.agg #[.float .f64 lo, .float .f64 hi], v]) ∧ Below w.heap.size w w' ∧ (r = some (lo, hi) ∧ v = .nilIface ∨ r = none ∧ v = .iface 229 (.pointer (some (A 8))))

theorem fz_less {a b : Nat} {p q : Int} (ha : FZ a p) (hb : FZ b q) (pa : plP p = true) (pb : plP q = true) (h : p ≤ q) : lessW b a = false := by
  have e1 : plainN (posW a) = plainN a := plainN_posW a ha.lt
  have e2 : plainN (posW b) = plainN b := plainN_posW b hb.lt
  have sa : (plainN a).isSome = true := by rw [ha.plain]; exact pa
  have sb : (plainN b).isSome = true := by rw [hb.plain]; exact pb
  have ia : Iv (posW a) (posW a) := ⟨ha.posW.lt, ha.posW.lt, ha.posW.nz, ha.posW.nz, plT_some (by rw [e1]; exact sa), plT_some (by rw [e1]; exact sa), Int.le_refl _⟩
  have ib : Iv (posW b) (posW b) := ⟨hb.posW.lt, hb.posW.lt, hb.posW.nz, hb.posW.nz, plT_some (by rw [e2]; exact sb), plT_some (by rw [e2]; exact sb), Int.le_refl _⟩
  have := lessT_pos ib ia
  rw [ha.posW.pos, hb.posW.pos, decide_eq_false (by omega)] at this
  unfold lessT plT at this
  unfold lessW
  rw [e1, e2] at this
  exact this

/-- Make of two widened ends. -/
theorem make_wide {lo hi : Nat} {p q : Int} (hl : FZ lo p) (hh : FZ hi q) (h : p ≤ q) : (makeN (plW lo) (negW (plW (negW hi)))).2.2 = 0 ∧ wideX p q = some ((makeN (plW lo) (negW (plW (negW hi)))).1, (makeN (plW lo) (negW (plW (negW hi)))).2.1) ∨ (makeN (plW lo) (negW (plW (negW hi)))).2.2 ≠ 0 ∧ (makeN (plW lo) (negW (plW (negW hi)))).2.2 ≤ 2 ∧ wideX p q = none := by
  have f1 := hl.plW.1
  have f2 : FZ (negW (plW (negW hi))) (paP q) := hh.neg.plW.1.neg
  have l1 := pbP_le p
  have l2 := le_paP q
  generalize plW lo = a at *
  generalize negW (plW (negW hi)) = b at *
  unfold makeN wideX
  rw [f1.plain, f2.plain]
  by_cases h1 : plP (pbP p) = true
  · by_cases h2 : plP (paP q) = true
    · left
      rw [if_neg (by rw [h1, h2]; simp), fz_less f1 f2 h1 h2 (by omega), if_neg Bool.false_ne_true, if_pos ⟨h1, h2⟩]
      refine ⟨rfl, ?_⟩
      rw [f1.posW.word h1, f2.posW.word h2]
    · right
      have h2' : plP (paP q) = false := by cases hc : plP (paP q) <;> simp_all
      rw [if_pos (by rw [h2']; simp), if_neg (by rw [h2']; simp)]
      exact ⟨by decide, by decide, rfl⟩
  · right
    have h1' : plP (pbP p) = false := by cases hc : plP (pbP p) <;> simp_all
    rw [if_pos (by rw [h1']; simp), if_neg (by rw [h1']; simp)]
    exact ⟨by decide, by decide, rfl⟩

set_option maxHeartbeats 2000000 in
set_option maxRecDepth 100000 in
theorem widened_any (A : Nat → Addr) (lo hi : Nat) (p q : Int) (w : World) (hS : Sents A w) (hl : FZ lo p) (hh : FZ hi q) (h : p ≤ q) :
    Calls Tryz.prog 159 #[.float .f64 lo, .float .f64 hi] w fun ev w' => SvR A w (wideX p q) ev w' := by
  have H1 : Hid (∀ W, Calls Tryz.prog 179 #[.float .f64 lo] W fun e w' => e = .returned (.float .f64 (plW lo)) ∧ w' = W) := fun W => plainBelow_any lo W hl.lt hl.num
  have H2 : Hid (∀ W, Calls Tryz.prog 179 #[.float .f64 (negW hi)] W fun e w' => e = .returned (.float .f64 (plW (negW hi))) ∧ w' = W) := fun W => plainBelow_any (negW hi) W hh.neg.lt hh.neg.num
  have n0 : ∀ w, (Op.unary .neg (.float .f64 hi)).run Tryz.prog w = .ok (.float .f64 (negW hi)) w := fun w => run_neg_float w _
  have n1 : ∀ w, (Op.unary .neg (.float .f64 (plW (negW hi)))).run Tryz.prog w = .ok (.float .f64 (negW (plW (negW hi)))) w := fun w => run_neg_float w _
  have HM : Hid (∀ W, Below w.heap.size w W → Calls Tryz.prog 55 #[.float .f64 (plW lo), .float .f64 (negW (plW (negW hi)))] W fun ev w' => MakeR A (plW lo) (negW (plW (negW hi))) W ev w') := fun W hb => make_any A _ _ W hl.plW.1.lt hh.neg.plW.1.neg.lt (hS.below hb (Nat.le_refl _))
  have hm  := hid' (make_wide hl hh h)
  have HS := hid' hS
  clear hl hh h hS
  generalize plW (negW hi) = y1 at *
  generalize negW y1 = y2 at *
  generalize negW hi = y0 at *
  generalize plW lo = x1 at *
  unfold MakeR at HM
  generalize makeN x1 y2 = m at *
  obtain ⟨m1, m2, m3⟩ := m
  simp only at hm HM
  go_enter Tryz.func159, Tryz.ntmps159
  go_wp2_with fail
  have hB : Below w.heap.size w (w.alloc (Obj.cells #[.float .f64 0, .float .f64 0] 67)) := (Below.refl _ _).alloc (Nat.le_refl _) _
  have K0 := blk_new w (Obj.cells #[.float .f64 0, .float .f64 0] 67)
  generalize (w.alloc (Obj.cells #[.float .f64 0, .float .f64 0] 67)) = W1 at *
  refine Calls.mono (H1.out _) ?_
  rintro e w1 ⟨rfl, rfl⟩
  go_wp2_with fail
  refine Calls.mono (H2.out _) ?_
  rintro e w1 ⟨rfl, rfl⟩
  clear H1 H2
  go_wp2_with fail
  refine Calls.mono (HM.out _ hB) ?_
  rintro e w2 ⟨rfl, hb2⟩
  have HB : Hid (Below w.heap.size w w2) := hB.trans (hb2.mono hB.size)
  have K := hid' (blk_below K0 hb2)
  clear hB K0 hb2 HM n0 n1
  have lk := lt_of_row K.out
  go_wp2_with fail
  have HB : Hid (Below w.heap.size w (w2.alloc (Obj.cells #[.float .f64 m1, .float .f64 m2] 67))) := HB.out.alloc HB.out.size _
  have K := hid' (blk_old K.out (Obj.cells #[.float .f64 m1, .float .f64 m2] 67))
  have K2 := hid' (blk_new w2 (Obj.cells #[.float .f64 m1, .float .f64 m2] 67))
  have HI := hid' (HS.out.below HB.out (Nat.le_refl _))
  obtain ⟨k0, k1, k2, k3⟩ := blk2 K.out
  obtain ⟨t0, t1, t2, t3⟩ := blk2 K2.out
  have hne : w2.heap.size ≠ w.heap.size := by omega
  generalize w2.heap.size = gt at *
  generalize (w2.alloc (Obj.cells #[.float .f64 m1, .float .f64 m2] 67)) = W3 at *
  have l8 : 8 < w.heap.size := lt_of_cell (HS.out.cell 8 (by omega))
  clear K2 lk HS
  rcases hm.out with ⟨e0, hw⟩ | ⟨e0, e1, hw⟩
  · have e : errV A m3 = .nilIface := by unfold errV; rw [if_pos e0]
    have HW := hid' hw
    have HB : Hid (Below w.heap.size w ((W3.setCell ⟨w.heap.size, 0, none⟩ (.float .f64 m1)).setCell ⟨w.heap.size, 1, none⟩ (.float .f64 m2))) := (HB.out.setCell (by exact Nat.le_refl _) _).setCell (by exact Nat.le_refl _) _
    have K := hid' (blk_store2 K.out (a := .float .f64 m1) (b := .float .f64 m2))
    rw [e]
    clear hm e e0 hw HI
    go_simp
    go_wp2_with fail
    clear k0 k1 k2 k3 t0 t1 t2 t3
    obtain ⟨k0, k1, k2, k3⟩ := blk2 K.out
    generalize ((W3.setCell ⟨w.heap.size, 0, none⟩ (.float .f64 m1)).setCell ⟨w.heap.size, 1, none⟩ (.float .f64 m2)) = W4 at *
    refine bodyPost_ret (v := .tuple #[.agg #[.float .f64 m1, .float .f64 m2], .nilIface]) (by simp [results, Tryz.results159, go_sem, k0, k1]) rfl ?_
    exact ⟨m1, m2, _, rfl, HB.out, .inl ⟨HW.out, rfl⟩⟩
  · have e : errV A m3 = .iface 229 (.pointer (some (A (m3 - 1)))) := by unfold errV; rw [if_neg e0]
    have HW := hid' hw
    rw [e]
    clear hm e e0 e1 hw
    generalize A (m3 - 1) = am at *
    have c8 : W3.cell? ⟨8, 0, none⟩ = some (.iface 229 (.pointer (some (A 8)))) := HI.out.cell 8 (by omega)
    go_simp
    go_wp2_with fail
    have HB : Hid (Below w.heap.size w ((W3.setCell ⟨w.heap.size, 0, none⟩ (.float .f64 0)).setCell ⟨w.heap.size, 1, none⟩ (.float .f64 0)).drew) := ((HB.out.setCell (by exact Nat.le_refl _) _).setCell (by exact Nat.le_refl _) _).drew
    have K : Hid (((W3.setCell ⟨w.heap.size, 0, none⟩ (.float .f64 0)).setCell ⟨w.heap.size, 1, none⟩ (.float .f64 0)).drew.heap[w.heap.size]? = _) := blk_store2 K.out (a := .float .f64 0) (b := .float .f64 0)
    go_region
    all_goals (go_wp2_with fail)
    all_goals (clear k0 k1 k2 k3 t0 t1 t2 t3 c8; obtain ⟨k0, k1, k2, k3⟩ := blk2 K.out; generalize ((W3.setCell ⟨w.heap.size, 0, none⟩ (.float .f64 0)).setCell ⟨w.heap.size, 1, none⟩ (.float .f64 0)).drew = W4 at *)
    all_goals (refine bodyPost_ret (v := .tuple #[.agg #[.float .f64 0, .float .f64 0], .iface 229 (.pointer (some (A 8)))]) (by simp [results, Tryz.results159, go_sem, k0, k1]) rfl ?_; exact ⟨0, 0, _, rfl, HB.out, .inr ⟨HW.out, rfl⟩⟩)
end Go.Proofs.YtonhpkigoplmaaaGreatDoor
namespace Go.Proofs.YtonhpkigoplmaaaGreatDoor
open Go.RowKit Go.Extern Ieee
attribute [local go_sem] run_store_float

theorem cornM {al ah bl_ bh : Nat} (i : Iv al ah) (j : Iv bl_ bh) : ∃ lo hi p q, FZ lo p ∧ FZ hi q ∧ p ≤ q ∧ wideX p q = muX (al, ah) (bl_, bh) ∧ ∀ w, Calls Tryz.prog 91 #[.func (.func 92) #[] #[], .agg #[.float .f64 al, .float .f64 ah], .agg #[.float .f64 bl_, .float .f64 bh]] w fun ev w' => ev = .returned (.tuple #[.float .f64 lo, .float .f64 hi]) ∧ Below w.heap.size w w' := by
  obtain ⟨d1, u1, e1, g1⟩ := prod_plain i.lt1 j.lt1 i.p1 j.p1
  obtain ⟨d2, u2, e2, g2⟩ := prod_plain i.lt1 j.lt2 i.p1 j.p2
  obtain ⟨d3, u3, e3, g3⟩ := prod_plain i.lt2 j.lt1 i.p2 j.p1
  obtain ⟨d4, u4, e4, g4⟩ := prod_plain i.lt2 j.lt2 i.p2 j.p2
  have f1 := e1.1.mn e2.1
  have f2 := f1.mn e3.1
  have f3 := f2.mn e4.1
  have k1 := e1.2.mx e2.2
  have k2 := k1.mx e3.2
  have k3 := k2.mx e4.2
  refine ⟨_, _, _, _, f3.fz, k3.fz, ?_, rfl, fun w => corners_mul al ah bl_ bh d1 u1 d2 u2 d3 u3 d4 u4 _ _ _ _ _ _ w (fun w ts t => run_min_float w ts t e1.1 e2.1) (fun w ts t => run_min_float w ts t f1 e3.1) (fun w ts t => run_min_float w ts t f2 e4.1) (fun w ts t => run_max_float w ts t e1.2 e2.2) (fun w ts t => run_max_float w ts t k1 e3.2) (fun w ts t => run_max_float w ts t k2 e4.2) g1 g2 g3 g4⟩
  have := posV_le (prodN (plT al) (plT bl_))
  omega

theorem cornD {al ah bl_ bh : Nat} (i : Iv al ah) (j : Iv bl_ bh) (hz : holdsT (plT bl_) (plT bh) = false) : ∃ lo hi p q, FZ lo p ∧ FZ hi q ∧ p ≤ q ∧ wideX p q = quX (al, ah) (bl_, bh) ∧ ∀ w, Calls Tryz.prog 91 #[.func (.func 94) #[] #[], .agg #[.float .f64 al, .float .f64 ah], .agg #[.float .f64 bl_, .float .f64 bh]] w fun ev w' => ev = .returned (.tuple #[.float .f64 lo, .float .f64 hi]) ∧ Below w.heap.size w w' := by
  obtain ⟨n1, n2⟩ := iv_ne j hz
  obtain ⟨d1, u1, e1, g1⟩ := quo_plain i.lt1 j.lt1 i.p1 j.p1 n1
  obtain ⟨d2, u2, e2, g2⟩ := quo_plain i.lt1 j.lt2 i.p1 j.p2 n2
  obtain ⟨d3, u3, e3, g3⟩ := quo_plain i.lt2 j.lt1 i.p2 j.p1 n1
  obtain ⟨d4, u4, e4, g4⟩ := quo_plain i.lt2 j.lt2 i.p2 j.p2 n2
  have f1 := e1.1.mn e2.1
  have f2 := f1.mn e3.1
  have f3 := f2.mn e4.1
  have k1 := e1.2.mx e2.2
  have k2 := k1.mx e3.2
  have k3 := k2.mx e4.2
  refine ⟨_, _, _, _, f3.fz, k3.fz, ?_, rfl, fun w => corners_quo al ah bl_ bh d1 u1 d2 u2 d3 u3 d4 u4 _ _ _ _ _ _ w (fun w ts t => run_min_float w ts t e1.1 e2.1) (fun w ts t => run_min_float w ts t f1 e3.1) (fun w ts t => run_min_float w ts t f2 e4.1) (fun w ts t => run_max_float w ts t e1.2 e2.2) (fun w ts t => run_max_float w ts t k1 e3.2) (fun w ts t => run_max_float w ts t k2 e4.2) g1 g2 g3 g4⟩
  have := posV_le (quoN (plT al) (plT bl_))
  omega

theorem diffS {al ah bl_ bh : Nat} (i : Iv al ah) (j : Iv bl_ bh) : ∃ lo hi p q, FZ lo p ∧ FZ hi q ∧ p ≤ q ∧ wideX p q = suX (al, ah) (bl_, bh) ∧ ∀ w, Calls Tryz.prog 90 #[.agg #[.float .f64 al, .float .f64 ah], .agg #[.float .f64 bl_, .float .f64 bh]] w fun ev w' => ev = .returned (.tuple #[.float .f64 lo, .float .f64 hi]) ∧ Below w.heap.size w w' := by
  obtain ⟨d1, u1, e1, g1⟩ := sum_plain i.lt1 (negW_lt j.lt2) i.z1 i.p1 (plain_neg j.lt2 j.p2)
  obtain ⟨d2, u2, e2, g2⟩ := sum_plain i.lt2 (negW_lt j.lt1) i.z2 i.p2 (plain_neg j.lt1 j.p1)
  exact ⟨d1, u2, _, _, e1.1.fz, e2.2.fz, su_le (a := (al, ah)) (b := (bl_, bh)) i j, rfl, fun w => diffsF_any al ah bl_ bh d1 u1 d2 u2 w g1 g2⟩

/-- The boxes of lessProduct: its first argument's, its result's. -/
structure LP (w W : World) (al ah : Nat) : Prop where
  k0 : W.heap[w.heap.size]? = some (.cells #[.float .f64 al, .float .f64 ah] 67 (0, 0))
  k3 : W.heap[w.heap.size + 1 + 1 + 1]? = some (.cells #[.float .f64 0, .float .f64 0] 67 (0, 0))
  hb : Below w.heap.size w W
theorem LP.below {w W W' : World} {al ah : Nat} (m : LP w W al ah) (hb : Below W.heap.size W W') : LP w W' al ah := ⟨blk_below m.k0 hb, blk_below m.k3 hb, m.hb.trans (hb.mono m.hb.size)⟩
theorem LP.alloc {w W : World} {al ah : Nat} (m : LP w W al ah) (o : Obj) : LP w (W.alloc o) al ah := m.below ((Below.refl _ _).alloc (Nat.le_refl _) o)

set_option maxHeartbeats 4000000 in
set_option maxRecDepth 100000 in
theorem lessProduct_walk (A : Nat → Addr) (al ah bl_ bh cl ch : Nat) (w : World) (r1 r2 : Option (Nat × Nat)) (lo hi : Nat) (hS : Sents A w)
    (hm : ∀ W, Calls Tryz.prog 91 #[.func (.func 92) #[] #[], .agg #[.float .f64 bl_, .float .f64 bh], .agg #[.float .f64 cl, .float .f64 ch]] W fun ev w' => ev = .returned (.tuple #[.float .f64 lo, .float .f64 hi]) ∧ Below W.heap.size W w')
    (hw : ∀ W, Sents A W → Calls Tryz.prog 159 #[.float .f64 lo, .float .f64 hi] W fun ev w' => SvR A W r1 ev w')
    (hd : ∀ tl th, r1 = some (tl, th) → ∃ l2 h2, (∀ W, Calls Tryz.prog 90 #[.agg #[.float .f64 al, .float .f64 ah], .agg #[.float .f64 tl, .float .f64 th]] W fun ev w' => ev = .returned (.tuple #[.float .f64 l2, .float .f64 h2]) ∧ Below W.heap.size W w') ∧ ∀ W, Sents A W → Calls Tryz.prog 159 #[.float .f64 l2, .float .f64 h2] W fun ev w' => SvR A W r2 ev w')
    (hr : r1 = none → r2 = none) :
    Calls Tryz.prog 158 #[.agg #[.float .f64 al, .float .f64 ah], .agg #[.float .f64 bl_, .float .f64 bh], .agg #[.float .f64 cl, .float .f64 ch]] w fun ev w' => SvR A w r2 ev w' := by
  have HM := hid' hm
  have HW : Hid (∀ W, Below w.heap.size w W → Calls Tryz.prog 159 #[.float .f64 lo, .float .f64 hi] W fun ev w' => SvR A W r1 ev w') := fun W hb => hw W (hS.below hb (Nat.le_refl _))
  have HD := hid' hd
  have HS := hid' hS
  have HR := hid' hr
  clear hm hw hd hS hr
  go_enter Tryz.func158, Tryz.ntmps158
  go_wp2_with fail
  have m : Hid (LP w ((((w.alloc (Obj.cells #[.float .f64 al, .float .f64 ah] 67)).alloc (Obj.cells #[.float .f64 bl_, .float .f64 bh] 67)).alloc (Obj.cells #[.float .f64 cl, .float .f64 ch] 67)).alloc (Obj.cells #[.float .f64 0, .float .f64 0] 67)) al ah) := by
    refine ⟨blk_old (blk_old (blk_old (blk_new w _) _) _) _, ?_, (((((Below.refl _ w).alloc (Nat.le_refl _) _).alloc (by simp) _).alloc (by simp; omega) _).alloc (by simp; omega) _)⟩
    have := blk_new (((w.alloc (Obj.cells #[.float .f64 al, .float .f64 ah] 67)).alloc (Obj.cells #[.float .f64 bl_, .float .f64 bh] 67)).alloc (Obj.cells #[.float .f64 cl, .float .f64 ch] 67)) (Obj.cells #[.float .f64 0, .float .f64 0] 67)
    simp only [World.size_alloc] at this
    exact this
  generalize ((((w.alloc (Obj.cells #[.float .f64 al, .float .f64 ah] 67)).alloc (Obj.cells #[.float .f64 bl_, .float .f64 bh] 67)).alloc (Obj.cells #[.float .f64 cl, .float .f64 ch] 67)).alloc (Obj.cells #[.float .f64 0, .float .f64 0] 67)) = W1 at *
  refine Calls.mono (HM.out _) ?_
  rintro e w1 ⟨rfl, hb1⟩
  have m := hid' (m.out.below hb1)
  clear hb1 HM
  go_wp2_with fail
  refine Calls.mono (HW.out _ m.out.hb) ?_
  rintro e w2 ⟨tl, th, v, rfl, hb2, hor⟩
  have m := hid' (m.out.below hb2)
  clear hb2 HW
  have l3 := lt_of_row m.out.k3
  rcases hor with ⟨e1, rfl⟩ | ⟨e1, rfl⟩
  · obtain ⟨l2, h2, d1, d2⟩ := HD.out tl th e1
    have HD1 := hid' d1
    have HD2 : Hid (∀ W, Below w.heap.size w W → Calls Tryz.prog 159 #[.float .f64 l2, .float .f64 h2] W fun ev w' => SvR A W r2 ev w') := fun W hb => d2 W (HS.out.below hb (Nat.le_refl _))
    clear HD HR HS d1 d2 e1
    obtain ⟨a0, a1, -, -⟩ := blk2 m.out.k0
    have l0 := lt_of_row m.out.k0
    go_wp2_with fail
    have m := hid' (m.out.alloc (Obj.cells #[.float .f64 tl, .float .f64 th] 67))
    clear a0 a1 l3 l0
    generalize (w2.alloc (Obj.cells #[.float .f64 tl, .float .f64 th] 67)) = W3 at *
    refine Calls.mono (HD1.out _) ?_
    rintro e w3 ⟨rfl, hb3⟩
    have m := hid' (m.out.below hb3)
    clear hb3 HD1
    go_wp2_with fail
    refine Calls.mono (HD2.out _ m.out.hb) ?_
    rintro e w4 ⟨ul, uh, v, rfl, hb4, hor⟩
    have m := hid' (m.out.below hb4)
    clear hb4 HD2
    have HO := hid' hor
    clear hor
    obtain ⟨k0, k1, k2, k3⟩ := blk2 m.out.k3
    have HB : Hid (Below w.heap.size w ((w4.setCell ⟨w.heap.size + 1 + 1 + 1, 0, none⟩ (.float .f64 ul)).setCell ⟨w.heap.size + 1 + 1 + 1, 1, none⟩ (.float .f64 uh))) := (m.out.hb.setCell (by show w.heap.size ≤ w.heap.size + 1 + 1 + 1; omega) _).setCell (by show w.heap.size ≤ w.heap.size + 1 + 1 + 1; omega) _
    have K := hid' (blk_store2 m.out.k3 (a := .float .f64 ul) (b := .float .f64 uh))
    go_wp2_with fail
    clear k0 k1 k2 k3
    obtain ⟨k0, k1, k2, k3⟩ := blk2 K.out
    generalize ((w4.setCell ⟨w.heap.size + 1 + 1 + 1, 0, none⟩ (.float .f64 ul)).setCell ⟨w.heap.size + 1 + 1 + 1, 1, none⟩ (.float .f64 uh)) = W4 at *
    refine bodyPost_ret (v := .tuple #[.agg #[.float .f64 ul, .float .f64 uh], v]) (by simp [results, Tryz.results158, go_sem, k0, k1]) rfl ?_
    exact ⟨ul, uh, _, rfl, HB.out, HO.out⟩
  · have hn := HR.out e1
    have HN := hid' hn
    clear HD HR HS e1 hn
    obtain ⟨k0, k1, k2, k3⟩ := blk2 m.out.k3
    have HB : Hid (Below w.heap.size w (((w2.setCell ⟨w.heap.size + 1 + 1 + 1, 0, none⟩ (.float .f64 0)).setCell ⟨w.heap.size + 1 + 1 + 1, 1, none⟩ (.float .f64 0)).alloc (Obj.cells #[.float .f64 tl, .float .f64 th] 67))) := ((m.out.hb.setCell (by show w.heap.size ≤ w.heap.size + 1 + 1 + 1; omega) _).setCell (by show w.heap.size ≤ w.heap.size + 1 + 1 + 1; omega) _).alloc (by simp only [World.size_setCell]; omega) _
    have K := hid' (blk_old (blk_store2 m.out.k3 (a := .float .f64 0) (b := .float .f64 0)) (Obj.cells #[.float .f64 tl, .float .f64 th] 67))
    go_wp2_with fail
    clear k0 k1 k2 k3
    obtain ⟨k0, k1, k2, k3⟩ := blk2 K.out
    generalize (((w2.setCell ⟨w.heap.size + 1 + 1 + 1, 0, none⟩ (.float .f64 0)).setCell ⟨w.heap.size + 1 + 1 + 1, 1, none⟩ (.float .f64 0)).alloc (Obj.cells #[.float .f64 tl, .float .f64 th] 67)) = W4 at *
    refine bodyPost_ret (v := .tuple #[.agg #[.float .f64 0, .float .f64 0], .iface 229 (.pointer (some (A 8)))]) (by simp [results, Tryz.results158, go_sem, k0, k1]) rfl ?_
    exact ⟨0, 0, _, rfl, HB.out, .inr ⟨HN.out, rfl⟩⟩

theorem lessProduct_any (A : Nat → Addr) {al ah bl_ bh cl ch : Nat} (w : World) (hS : Sents A w) (i : Iv al ah) (j : Iv bl_ bh) (k : Iv cl ch) :
    Calls Tryz.prog 158 #[.agg #[.float .f64 al, .float .f64 ah], .agg #[.float .f64 bl_, .float .f64 bh], .agg #[.float .f64 cl, .float .f64 ch]] w fun ev w' => SvR A w (lpX muX suX (al, ah) (bl_, bh) (cl, ch)) ev w' := by
  obtain ⟨lo, hi, p, q, f1, f2, hle, hw, hc⟩ := cornM j k
  refine lessProduct_walk A al ah bl_ bh cl ch w (muX (bl_, bh) (cl, ch)) _ lo hi hS hc (fun W hS => ?_) (fun tl th he => ?_) (fun h => by unfold lpX; rw [h]; rfl)
  · rw [← hw]; exact widened_any A lo hi p q W hS f1 f2 hle
  · have it : Iv tl th := mu_iv he
    obtain ⟨l2, h2, p2, q2, g1, g2, hle2, hw2, hc2⟩ := diffS i it
    refine ⟨l2, h2, hc2, fun W hS => ?_⟩
    have : lpX muX suX (al, ah) (bl_, bh) (cl, ch) = wideX p2 q2 := by unfold lpX; rw [he, hw2]; rfl
    rw [this]
    exact widened_any A l2 h2 p2 q2 W hS g1 g2 hle2
end Go.Proofs.YtonhpkigoplmaaaGreatDoor
namespace Go.Proofs.YtonhpkigoplmaaaGreatDoor
open Go.RowKit

end Go.Proofs.YtonhpkigoplmaaaGreatDoor
namespace Go.Proofs.YtonhpkigoplmaaaGreatDoor
open Go.RowKit Go.Extern Ieee

end Go.Proofs.YtonhpkigoplmaaaGreatDoor
namespace Go.Proofs.YtonhpkigoplmaaaGreatDoor
open Go.RowKit


end Go.Proofs.YtonhpkigoplmaaaGreatDoor
namespace Go.Proofs.YtonhpkigoplmaaaGreatDoor
open Go.RowKit
attribute [local go_sem] run_store_float

end Go.Proofs.YtonhpkigoplmaaaGreatDoor
namespace Go.Proofs.YtonhpkigoplmaaaGreatDoor
open Go.RowKit

end Go.Proofs.YtonhpkigoplmaaaGreatDoor
namespace Go.Proofs.YtonhpkigoplmaaaGreatDoor
open Go.RowKit
attribute [local go_sem] run_store_float

end Go.Proofs.YtonhpkigoplmaaaGreatDoor
namespace Go.Proofs.YtonhpkigoplmaaaGreatDoor
open Go.RowKit Go.Shelf
attribute [local go_sem] run_store_float
attribute [local go_sem] Oper.semAt_some

end Go.Proofs.YtonhpkigoplmaaaGreatDoor
namespace Go.Proofs.YtonhpkigoplmaaaGreatDoor
open Go.RowKit Go.Extern
attribute [local go_sem] run_store_float

end Go.Proofs.YtonhpkigoplmaaaGreatDoor
namespace Go.Proofs.YtonhpkigoplmaaaGreatDoor
open Go.RowKit Go.Extern Ieee

theorem holdsF_any {l h : Nat} (j : Iv l h) (W : World) : Calls Tryz.prog 93 #[.agg #[.float .f64 l, .float .f64 h]] W fun e w' => e = .returned (.bool (holdsT (plT l) (plT h))) ∧ Below W.heap.size W w' := by
  obtain ⟨o1, ho1, hl1, hg1⟩ := sgn_order j
  obtain ⟨o2, ho2, hl2, hg2⟩ := sgn_order j.high
  have hh : (o1 != .gt && o2 != .lt) = holdsT (plT l) (plT h) := by
    have x1 : (o1 != .gt) = decide (sgnI (plT l).1 (plT l).2.1 ≤ 0) := by
      by_cases h : 0 < sgnI (plT l).1 (plT l).2.1
      · rw [hg1.2 h, decide_eq_false (by omega)]; rfl
      · rw [decide_eq_true (show sgnI (plT l).1 (plT l).2.1 ≤ 0 by omega)]
        cases o1 with
        | lt => rfl
        | eq => rfl
        | gt => exact absurd (hg1.1 rfl) h
    have x2 : (o2 != .lt) = decide (0 ≤ sgnI (plT h).1 (plT h).2.1) := by
      by_cases hc : sgnI (plT h).1 (plT h).2.1 < 0
      · rw [hl2.2 hc, decide_eq_false (by omega)]; rfl
      · rw [decide_eq_true (show 0 ≤ sgnI (plT h).1 (plT h).2.1 by omega)]
        cases o2 with
        | lt => exact absurd (hl2.1 rfl) hc
        | eq => rfl
        | gt => rfl
    rw [x1, x2]
    unfold holdsT
    rfl
  have := holds_any l h o1 o2 W ho1 ho2
  rwa [hh] at this

end Go.Proofs.YtonhpkigoplmaaaGreatDoor
namespace Go.Proofs.YtonhpkigoplmaaaGreatDoor
open Go.RowKit Go.Extern Ieee
attribute [local go_sem] run_store_float

set_option maxHeartbeats 2000000 in
set_option maxRecDepth 100000 in
theorem greatest_any {al ah : Nat} (i : Iv al ah) (w : World) : Calls Tryz.prog 178 #[.agg #[.float .f64 al, .float .f64 ah]] w fun e w' => e = .returned (.float .f64 (gtW (al, ah))) ∧ Below w.heap.size w w' := by
  have H1 : Hid (∀ W, Calls Tryz.prog 160 #[.float .f64 al] W fun e w' => e = .returned (.float .f64 (absW al)) ∧ w' = W) := fun W => abs_any al W i.lt1
  have H2 : Hid (∀ W, Calls Tryz.prog 160 #[.float .f64 ah] W fun e w' => e = .returned (.float .f64 (absW ah)) ∧ w' = W) := fun W => abs_any ah W i.lt2
  have mx : ∀ (w : World) (ts : Array TypeId) (t : TypeId), (Builtin.max_ ts t #[.float .f64 (absW al), .float .f64 (absW ah)]).run Tryz.prog w = .ok (.float .f64 (gtW (al, ah))) w := fun w ts t => run_max_float w ts t (abs_plain i.lt1 i.p1).1.nn.fr (abs_plain i.lt2 i.p2).1.nn.fr
  clear i
  generalize absW al = x at *
  generalize absW ah = y at *
  generalize gtW (al, ah) = z at *
  go_enter Tryz.func178, Tryz.ntmps178
  go_wp2_with fail
  have hB : Below w.heap.size w (w.alloc (Obj.cells #[.float .f64 al, .float .f64 ah] 67)) := (Below.refl _ _).alloc (Nat.le_refl _) _
  have K := blk_new w (Obj.cells #[.float .f64 al, .float .f64 ah] 67)
  generalize (w.alloc (Obj.cells #[.float .f64 al, .float .f64 ah] 67)) = W1 at *
  obtain ⟨k0, k1, -, -⟩ := blk2 K
  go_region_with (first
    | (go_at_call 160; with_reducible (refine Calls.mono (H1.out _) ?_); rintro e w' ⟨rfl, rfl⟩)
    | (go_at_call 160; with_reducible (refine Calls.mono (H2.out _) ?_); rintro e w' ⟨rfl, rfl⟩))
  all_goals (go_wp2; go_ret; exact ⟨rfl, hB.drew⟩)

set_option maxHeartbeats 2000000 in
set_option maxRecDepth 100000 in
theorem least_any {al ah : Nat} (i : Iv al ah) (w : World) : Calls Tryz.prog 177 #[.agg #[.float .f64 al, .float .f64 ah]] w fun e w' => e = .returned (.float .f64 (lsW (al, ah))) ∧ Below w.heap.size w w' := by
  have H0 : Hid (∀ W, Calls Tryz.prog 93 #[.agg #[.float .f64 al, .float .f64 ah]] W fun e w' => e = .returned (.bool (holdsT (plT al) (plT ah))) ∧ Below W.heap.size W w') := fun W => holdsF_any i W
  have H1 : Hid (∀ W, Calls Tryz.prog 160 #[.float .f64 al] W fun e w' => e = .returned (.float .f64 (absW al)) ∧ w' = W) := fun W => abs_any al W i.lt1
  have H2 : Hid (∀ W, Calls Tryz.prog 160 #[.float .f64 ah] W fun e w' => e = .returned (.float .f64 (absW ah)) ∧ w' = W) := fun W => abs_any ah W i.lt2
  have mn : ∀ (w : World) (ts : Array TypeId) (t : TypeId), (Builtin.min_ ts t #[.float .f64 (absW al), .float .f64 (absW ah)]).run Tryz.prog w = .ok (.float .f64 (fmin (absW al) (absW ah))) w := fun w ts t => run_min_float w ts t (abs_plain i.lt1 i.p1).1.nn.fr (abs_plain i.lt2 i.p2).1.nn.fr
  have hz : Hid (lsW (al, ah) = if holdsT (plT al) (plT ah) = true then 0 else fmin (absW al) (absW ah)) := rfl
  clear i
  generalize holdsT (plT al) (plT ah) = b at *
  generalize absW al = x at *
  generalize absW ah = y at *
  generalize fmin x y = z at *
  generalize lsW (al, ah) = r at *
  go_enter Tryz.func177, Tryz.ntmps177
  go_wp2_with fail
  have hB : Below w.heap.size w (w.alloc (Obj.cells #[.float .f64 al, .float .f64 ah] 67)) := (Below.refl _ _).alloc (Nat.le_refl _) _
  have K := blk_new w (Obj.cells #[.float .f64 al, .float .f64 ah] 67)
  generalize (w.alloc (Obj.cells #[.float .f64 al, .float .f64 ah] 67)) = W1 at *
  refine Calls.mono (H0.out _) ?_
  rintro e w1 ⟨rfl, hb1⟩
  have hB : Below w.heap.size w w1 := hB.trans (hb1.mono hB.size)
  have K := blk_below K hb1
  clear hb1 H0
  cases b
  · have e : Hid (r = z) := by show r = z; rw [hz.out, if_neg Bool.false_ne_true]
    obtain ⟨k0, k1, -, -⟩ := blk2 K
    clear K hz
    go_wp2_with fail
    go_region_with (first
      | (go_at_call 160; with_reducible (refine Calls.mono (H1.out _) ?_); rintro e w' ⟨rfl, rfl⟩)
      | (go_at_call 160; with_reducible (refine Calls.mono (H2.out _) ?_); rintro e w' ⟨rfl, rfl⟩))
    all_goals (go_wp2; go_ret; rw [e.out]; exact ⟨rfl, hB.drew⟩)
  · have e : Hid (r = 0) := by show r = 0; rw [hz.out, if_pos rfl]
    clear K hz
    go_wp2
    go_ret
    rw [e.out]
    exact ⟨rfl, hB⟩
end Go.Proofs.YtonhpkigoplmaaaGreatDoor
namespace Go.Proofs.YtonhpkigoplmaaaGreatDoor
open Go.RowKit Go.Shelf


end Go.Proofs.YtonhpkigoplmaaaGreatDoor
namespace Go.Proofs.YtonhpkigoplmaaaGreatDoor
open Go.RowKit Go.Shelf
attribute [local go_sem] run_store_float

end Go.Proofs.YtonhpkigoplmaaaGreatDoor
namespace Go.Proofs.YtonhpkigoplmaaaGreatDoor
open Go.RowKit Go.Extern

theorem equalIn_nil {P : Program} (w : World) (d : Nat) (t e : TypeId) (a : Option Addr) (l c : Nat) (h : P.underlying t = some (.slice e)) : (Op.equalIn (d + 1) t (.slice a l c) (.slice none 0 0)).run P w = .ok a.isNone w := by
  cases a <;> simp [Op.equalIn, run_underlying h]
theorem equal_nil {P : Program} (w : World) (t e : TypeId) (a : Option Addr) (l c : Nat) (h : P.underlying t = some (.slice e)) : (Op.equal t (.slice a l c) (.slice none 0 0)).run P w = .ok a.isNone w := equalIn_nil w 9999 t e a l c h
theorem slice_nil {P : Program} (w : World) (t e : TypeId) (a : Option Addr) (l c : Nat) (h : P.underlying t = some (.slice e)) : (binOp .eql t (.slice a l c) (.slice none 0 0)).run P w = .ok (.bool a.isNone) w := by
  simp [binOp, equal_nil w t e a l c h]

end Go.Proofs.YtonhpkigoplmaaaGreatDoor
namespace Go.Proofs.YtonhpkigoplmaaaGreatDoor
open Go.RowKit Go.Shelf
attribute [local go_sem] run_store_float


end Go.Proofs.YtonhpkigoplmaaaGreatDoor
namespace Go.Proofs.YtonhpkigoplmaaaGreatDoor
open Go.RowKit Go.Shelf

end Go.Proofs.YtonhpkigoplmaaaGreatDoor
namespace Go.Proofs.YtonhpkigoplmaaaGreatDoor
open Go.RowKit Go.Extern Ieee
attribute [local go_sem] run_store_float

end Go.Proofs.YtonhpkigoplmaaaGreatDoor
namespace Go.Proofs.YtonhpkigoplmaaaGreatDoor
open Go.RowKit Go.Shelf
attribute [local go_sem] run_store_float

theorem grown_set (W : World) (g i : Nat) (v : Value) : W.grownBy (W.setCell ⟨g, i, none⟩ v) (some g) :=
  ⟨rfl, rfl, rfl, (KeepsWalks.setCell W _ v).size, fun k _ hk => Below.heap_setCell _ _ _ k (fun e => hk (by rw [e]))⟩
theorem grown_trans {A B C : World} {g : Option Nat} (h : A.grownBy B g) (k : B.grownBy C g) : A.grownBy C g :=
  ⟨k.os.trans h.os, k.tape.trans h.tape, k.output.trans h.output, Nat.le_trans h.size k.size, fun i hi hg => (k.block i (Nat.lt_of_lt_of_le hi h.size) hg).trans (h.block i hi hg)⟩
end Go.Proofs.YtonhpkigoplmaaaGreatDoor
