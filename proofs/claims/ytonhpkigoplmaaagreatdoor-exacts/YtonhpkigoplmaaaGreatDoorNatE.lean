/-
  encloseref.times.
-/
import Derived.Test.YtonhpkigoplmaaaGreatDoorNatD
import Derived.Laws.OwnMore
namespace Go.Proofs.YtonhpkigoplmaaaGreatDoor
open Go.RowKit

theorem nval_set : ∀ (l : List Nat) (k d : Nat), k < l.length → nval (l.set k d) + 16777216 ^ k * l.getD k 0 = nval l + 16777216 ^ k * d
  | [], k, d, h => by simp at h
  | a :: r, 0, d, _ => by simp [nval]; omega
  | a :: r, k + 1, d, h => by
    have ih := nval_set r k d (by simpa using h)
    simp only [List.set_cons_succ, nval, List.getD_cons_succ, Nat.pow_succ]
    generalize 16777216 ^ k = P at *
    rw [Nat.mul_comm P 16777216, Nat.mul_assoc, Nat.mul_assoc]
    omega

theorem getD_set (l : List Nat) (k j d : Nat) (h : k ≠ j) : (l.set k d).getD j 0 = l.getD j 0 := by
  simp [List.getD, List.getElem?_set_ne h]

theorem mem_set {l : List Nat} {k d x : Nat} (h : x ∈ l.set k d) : x ∈ l ∨ x = d := List.mem_or_eq_of_mem_set h

/-- What holds of the inner loop's variables. -/
structure InR (l0 y : List Nat) (xi i j c : Nat) (l : List Nat) : Prop where
  len : l.length = l0.length
  dig : ∀ d ∈ l, d < 16777216
  car : c < 16777216
  le : j ≤ y.length ∨ (j = y.length + 1 ∧ c = 0)
  val : nval l + 16777216 ^ (i + j) * c = nval l0 + 16777216 ^ i * (xi * nval (y.take j))
  same : ∀ k, i + j ≤ k → l.getD k 0 = l0.getD k 0

theorem mul_lt_sq {p q : Nat} (hp : p < 16777216) (hq : q < 16777216) : p * q ≤ 281474943156225 := by
  have := Nat.mul_le_mul (show p ≤ 16777215 by omega) (show q ≤ 16777215 by omega)
  omega

theorem InR.step {l0 y l : List Nat} {xi i j c k q : Nat} (h : InR l0 y xi i j c l) (hxi : xi < 16777216) (hy : ∀ d ∈ y, d < 16777216) (hz : ∀ k, i + y.length ≤ k → l0.getD k 0 = 0) (hlen : i + j < l0.length) (hk : l.getD (i + j) 0 = k) (hq : y.getD j 0 = q) (hgo : j < y.length ∨ (¬ j < y.length ∧ 0 < c)) :
    InR l0 y xi i (j + 1) ((k + c + xi * q) / 16777216) (l.set (i + j) ((k + c + xi * q) % 16777216)) := by
  have hk1 : k < 16777216 := by rw [← hk]; exact getD_lt h.dig _
  have hq1 : q < 16777216 := by rw [← hq]; exact getD_lt hy _
  have hm := mul_lt_sq hxi hq1
  have hc := h.car
  have hl : i + j < l.length := by rw [h.len]; exact hlen
  refine ⟨by rw [List.length_set]; exact h.len, ?_, by omega, ?_, ?_, ?_⟩
  · intro d hd
    rcases mem_set hd with hd | rfl
    · exact h.dig d hd
    · omega
  · rcases hgo with hgo | ⟨hgo, hc0⟩
    · exact Or.inl (by omega)
    · have hj : j = y.length := by rcases h.le with h | ⟨_, h⟩ <;> omega
      have hq0 : q = 0 := by rw [← hq]; simp [List.getD, List.getElem?_eq_none (Nat.le_of_not_lt hgo)]
      have hk0 : k = 0 := by rw [← hk, h.same _ (Nat.le_refl _)]; exact hz _ (by omega)
      subst hq0 hk0
      exact Or.inr ⟨by omega, by omega⟩
  · have e1 := nval_set l (i + j) ((k + c + xi * q) % 16777216) hl
    rw [hk] at e1
    have hv := h.val
    rw [nval_take_succ, hq, show i + (j + 1) = (i + j) + 1 by omega, Nat.pow_succ, Nat.mul_add xi, Nat.mul_add (16777216 ^ i)]
    have e2 : 16777216 ^ i * (xi * (16777216 ^ j * q)) = 16777216 ^ (i + j) * (xi * q) := by
      rw [Nat.pow_add, ← Nat.mul_assoc xi, Nat.mul_comm xi (16777216 ^ j), Nat.mul_assoc, Nat.mul_assoc]
    rw [e2]
    generalize 16777216 ^ (i + j) = P at *
    generalize xi * q = m at *
    have e3 : P * (k + c + m) = P * ((k + c + m) % 16777216) + P * (16777216 * ((k + c + m) / 16777216)) := by rw [← Nat.mul_add, Nat.mod_add_div]
    rw [Nat.mul_add, Nat.mul_add, ← Nat.mul_assoc] at e3
    omega
  · intro k' hk'
    rw [getD_set _ _ _ _ (by omega)]
    exact h.same k' (by omega)

/-- What holds of the outer loop's variables. -/
structure OutR (x y : List Nat) (i : Nat) (l : List Nat) : Prop where
  len : l.length = x.length + y.length
  le : i ≤ x.length
  dig : ∀ d ∈ l, d < 16777216
  val : nval l = nval (x.take i) * nval y
  zero : ∀ k, i + y.length ≤ k → l.getD k 0 = 0

theorem OutR.step {x y l0 l : List Nat} {i j xi : Nat} (h : OutR x y i l0) (hi : i < x.length) (hxi : x.getD i 0 = xi) (hI : InR l0 y xi i j 0 l) (hj : ¬ j < y.length) : OutR x y (i + 1) l := by
  refine ⟨by rw [hI.len]; exact h.len, by omega, hI.dig, ?_, ?_⟩
  · have hv := hI.val
    rw [List.take_of_length_le (by omega), Nat.mul_zero, Nat.add_zero, h.val] at hv
    rw [hv, nval_take_succ, hxi, Nat.add_mul, Nat.mul_assoc]
  · intro k hk
    have := hI.le
    rw [hI.same k (by omega)]
    exact h.zero k (by omega)

theorem OutR.start (x y : List Nat) : OutR x y 0 (List.replicate (x.length + y.length) 0) := by
  have hz : ∀ n, nval (List.replicate n 0) = 0 := by
    intro n
    induction n with
    | zero => rfl
    | succ n ih => simp [List.replicate_succ, nval, ih]
  refine ⟨by simp, by omega, ?_, by rw [hz]; simp [nval], ?_⟩
  · intro d hd; rw [List.eq_of_mem_replicate hd]; omega
  · intro k _
    simp only [List.getD, List.getElem?_replicate]
    split <;> rfl

theorem map_set_dv (l : List Nat) (k d : Nat) : (l.set k d).map dv = (l.map dv).set k (dv d) := by simp [List.map_set]

set_option maxHeartbeats 4000000 in
set_option maxRecDepth 100000 in
theorem times_dig (x y : List Nat) (va vb : Value) (w : World) (hx : Dig w va x) (hy : Dig w vb y) (hlx : x.length ≤ 1000000) (hly : y.length ≤ 1000000) :
    Calls Tryz.prog 120 #[va, vb] w fun e w' => ∃ v, e = .returned v ∧ NatV w' v (nval x * nval y) ∧ Below w.heap.size w w' := by
  obtain ⟨i0, hi, hz0, hz1, hz2⟩ := info_parts infoInt
  have HDX : Hid (∀ d ∈ x, d < 16777216) := hx.1
  have HDY : Hid (∀ d ∈ y, d < 16777216) := hy.1
  obtain ⟨ao, ca, rfl, hca, ha⟩ := hx.open
  obtain ⟨bo, cb, rfl, hcb, hb⟩ := hy.open
  have HA : Hid (x.length = 0 ∨ ∃ b off, ao = some ⟨b, off, none⟩ ∧ b < w.heap.size ∧ ∀ i, i < x.length → w.cell? ⟨b, off + i, none⟩ = some (.int .i64 (x.getD i 0 : Nat))) := ha
  have HB : Hid (y.length = 0 ∨ ∃ b off, bo = some ⟨b, off, none⟩ ∧ b < w.heap.size ∧ ∀ i, i < y.length → w.cell? ⟨b, off + i, none⟩ = some (.int .i64 (y.getD i 0 : Nat))) := hb
  clear hx hy ha hb
  go_enter Tryz.func120, Tryz.ntmps120
  go_wp2_with (at_make; refine wpList_make_full _ rfl _ _ 40 rfl w.heap.size 3 i0 (.int .i64 0) 1 Tryz.underlying40 hi hz0 hz1 _ _ _ _ (x.length + y.length) rfl rfl (by omega) (by omega) ?m1 ?m2 ?m3 ?_)
  case m1 => rw [hz2]; omega
  case m2 => unfold maxLen; omega
  case m3 => exact Nat.le_refl _
  intro w1 hown1 hgrow1
  rw [toList_madeCells_one] at hown1
  have hown1 : w1.ownsRow w.heap.size 3 1 (.slice (some ⟨w.heap.size, 0, none⟩) (x.length + y.length) (x.length + y.length)) (x.length + y.length) ((List.replicate (x.length + y.length) 0).map dv) := by
    simpa [dv] using hown1
  have hb1 : Below w.heap.size w w1 := (Below.refl _ _).grown hgrow1 (Nat.le_refl _) (fun k hk => by cases hk)
  clear hgrow1
  go_wp2
  go_loopw [6] (fun v6 wr => ∃ (i : Nat) (l : List Nat), v6 = .int .i64 (i : Int) ∧ wr.ownsRow w.heap.size 3 1 (.slice (some ⟨w.heap.size, 0, none⟩) (x.length + y.length) (x.length + y.length)) (x.length + y.length) (l.map dv) ∧ OutR x y i l ∧ Below w.heap.size w wr) (fun v6 _ => x.length - (intOf v6).toNat)
  case atStart => exact ⟨0, _, rfl, hown1, OutR.start x y, hb1⟩
  case round =>
    obtain ⟨i, l0, rfl, hown0, hO, hbo⟩ := hrel
    have HO : Hid (OutR x y i l0) := hO
    have hil := hO.le
    clear hO hown1 hb1
    by_cases g1 : i < x.length
    · have hgo : x.length ≠ 0 := by omega
      have cxa : ∃ b1 o1, ao = some ⟨b1, o1, none⟩ ∧ b1 < w.heap.size ∧ w.cell? ⟨b1, o1 + i, none⟩ = some (.int .i64 (x.getD i 0 : Nat)) := by
        obtain ⟨b1, o1, h1, h2, h3⟩ := HA.out.resolve_left hgo
        exact ⟨b1, o1, h1, h2, h3 i g1⟩
      obtain ⟨b1, o1, rfl, hb1, c1⟩ := cxa
      generalize hp : x.getD i 0 = p at c1
      have hpl : p < 16777216 := by rw [← hp]; exact getD_lt HDX.out i
      have HP : Hid (x.getD i 0 = p) := hp
      have C1 : Hid (w.cell? ⟨b1, o1 + i, none⟩ = some (.int .i64 (p : Int))) := c1
      clear hp c1
      obtain ⟨wo, rfl⟩ : ∃ wo : World, wo = wr := ⟨_, rfl⟩
      go_wp2
      go_loopw [7, 8] (fun v7 v8 wr => ∃ (j c : Nat) (l : List Nat), v8 = .int .i64 (j : Int) ∧ v7 = .int .i64 (c : Int) ∧ wr.ownsRow w.heap.size 3 1 (.slice (some ⟨w.heap.size, 0, none⟩) (x.length + y.length) (x.length + y.length)) (x.length + y.length) (l.map dv) ∧ InR l0 y p i j c l ∧ Below w.heap.size w wr) (fun _ v8 _ => y.length + 1 - (intOf v8).toNat)
      case atStart => exact ⟨0, 0, l0, rfl, rfl, hown0, ⟨rfl, HO.out.dig, by omega, Or.inl (by omega), by simp [nval], fun _ _ => rfl⟩, hbo⟩
      case round =>
        obtain ⟨j, c, l, rfl, rfl, hown, hI, hbr⟩ := hrel
        have HI : Hid (InR l0 y p i j c l) := hI
        have hcl := hI.car
        have hjl : j ≤ y.length + 1 := by have := hI.le; omega
        have HJ : Hid (j ≤ y.length ∨ (j = y.length + 1 ∧ c = 0)) := hI.le
        clear hI
        have c1 := (hbr.cell (p := ⟨b1, o1 + i, none⟩) hb1).trans C1.out
        have hlen : Hid (l.length = x.length + y.length) := by show l.length = _; rw [HI.out.len, HO.out.len]
        by_cases g2 : j < y.length
        · have cyb : ∃ b2 o2, bo = some ⟨b2, o2, none⟩ ∧ wr.cell? ⟨b2, o2 + j, none⟩ = some (.int .i64 (y.getD j 0 : Nat)) := by
            obtain ⟨b2, o2, h1, h2, h3⟩ := HB.out.resolve_left (by omega)
            exact ⟨b2, o2, h1, by rw [hbr.cell (p := ⟨b2, o2 + j, none⟩) h2, h3 j g2]⟩
          obtain ⟨b2, o2, rfl, c2⟩ := cyb
          generalize hq : y.getD j 0 = q at c2
          have hql : q < 16777216 := by rw [← hq]; exact getD_lt HDY.out j
          have HQ : Hid (y.getD j 0 = q) := hq
          clear hq
          have c3 : wr.cell? ⟨w.heap.size, i + j, none⟩ = some (.int .i64 (l.getD (i + j) 0 : Nat)) := by
            rw [hown.cellAt (i + j) (by omega)]
            have : i + j < l.length := by rw [hlen.out]; omega
            simp [List.getElem?_eq_getElem this, dv]
          generalize hk : l.getD (i + j) 0 = k at c3
          have hkl : k < 16777216 := by rw [← hk]; exact getD_lt HI.out.dig _
          have HK : Hid (l.getD (i + j) 0 = k) := hk
          clear hk
          have hfz := hown.frozenAt (i + j)
          have hm : (p : Int) * (q : Int) ≤ 281474943156225 := by have := mul_lt_sq hpl hql; rw [← Int.natCast_mul]; omega
          have hm0 : 0 ≤ (p : Int) * (q : Int) := by rw [← Int.natCast_mul]; omega
          go_wp2
          go_quiet (fail)
          go_wp2
          go_roundw
          case rel =>
            refine ⟨j + 1, (k + c + p * q) / 16777216, l.set (i + j) ((k + c + p * q) % 16777216), by go_num, ?_, ?_, ?_, ?_⟩
            · rw [← Int.natCast_mul]; go_num
            · have := ((show (wr.drewN nq).ownsRow _ _ _ _ _ _ from hown).stored (i + j) (dv ((k + c + p * q) % 16777216))).1
              rw [map_set_dv]
              rw [← Int.natCast_mul]
              exact this
            · exact HI.out.step hpl HDY.out HO.out.zero (by rw [HO.out.len]; omega) HK.out HQ.out (Or.inl g2)
            · exact (below_drewN hbr nq).setCell (Nat.le_refl _) _
          case measure => simp [intOf]; omega
        · by_cases g3 : 0 < c
          · have hj : j = y.length := by have := HJ.out; omega
            have HJE : Hid (j = y.length) := hj
            clear hj
            have hij : i + j < x.length + y.length := by have := HJE.out; omega
            have c3 : wr.cell? ⟨w.heap.size, i + j, none⟩ = some (.int .i64 (l.getD (i + j) 0 : Nat)) := by
              rw [hown.cellAt (i + j) (by omega)]
              have : i + j < l.length := by rw [hlen.out]; omega
              simp [List.getElem?_eq_getElem this, dv]
            generalize hk : l.getD (i + j) 0 = k at c3
            have hkl : k < 16777216 := by rw [← hk]; exact getD_lt HI.out.dig _
            have HK : Hid (l.getD (i + j) 0 = k) := hk
            clear hk
            have hfz := hown.frozenAt (i + j)
            have hq0 : Hid (y.getD j 0 = 0) := by show y.getD j 0 = 0; simp [List.getD, List.getElem?_eq_none (Nat.le_of_not_lt g2)]
            go_wp2
            go_roundw
            case rel =>
              have S := HI.out.step hpl HDY.out HO.out.zero (by rw [HO.out.len]; omega) HK.out hq0.out (Or.inr ⟨g2, g3⟩)
              rw [Nat.mul_zero, Nat.add_zero] at S
              refine ⟨j + 1, (k + c) / 16777216, l.set (i + j) ((k + c) % 16777216), by go_num, by go_num, ?_, S, ?_⟩
              · have := (hown.stored (i + j) (dv ((k + c) % 16777216))).1
                rw [map_set_dv]
                exact this
              · exact hbr.setCell (Nat.le_refl _) _
            case measure => have := HJE.out; simp [intOf]; omega
          · have hc0 : c = 0 := by omega
            subst hc0
            go_wp2
            go_roundw
            case rel => exact ⟨i + 1, l, by go_num, hown, HO.out.step g1 HP.out HI.out g2, hbr⟩
            case measure => simp [intOf]; omega
    · have hie : i = x.length := by omega
      subst hie
      have hD : Dig wr (.slice (some ⟨w.heap.size, 0, none⟩) (x.length + y.length) (x.length + y.length)) l0 := by
        have h1 := hown0
        rw [← HO.out.len] at h1 ⊢
        exact Dig.of_owns h1 HO.out.dig
      have hlen : Hid (l0.length ≤ 2000000) := by show _ ≤ _; rw [HO.out.len]; omega
      go_wp2_with fail
      refine (trim_any l0 _ _ hD hlen.out).mono ?_
      rintro e w' ⟨v', rfl, hN, rfl⟩
      have e : nval l0 = nval x * nval y := by rw [HO.out.val, List.take_of_length_le (Nat.le_refl _)]
      rw [e] at hN
      clear e
      go_wp2_with fail
      go_ret
      exact ⟨_, rfl, hN, hbo⟩

theorem times_any (a b : Nat) (va vb : Value) (w : World) (ha : NatV w va a) (hb : NatV w vb b) (hla : (digits a).length ≤ 1000000) (hlb : (digits b).length ≤ 1000000) :
    Calls Tryz.prog 120 #[va, vb] w fun e w' => ∃ v, e = .returned v ∧ NatV w' v (a * b) ∧ Below w.heap.size w w' := by
  have := times_dig _ _ va vb w ha hb hla hlb
  rwa [nval_digits, nval_digits] at this
end Go.Proofs.YtonhpkigoplmaaaGreatDoor
