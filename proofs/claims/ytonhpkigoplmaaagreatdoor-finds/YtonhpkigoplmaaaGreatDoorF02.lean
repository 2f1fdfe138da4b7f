/-
  NatE, NatF, NumA, NumB, NumC.
-/
import Derived.Test.YtonhpkigoplmaaaGreatDoorF01
import Derived.Laws.OwnMore
import Derived.RegionTactic
import Derived.ChangeAlike
import Derived.Deep.RegionHeld3
namespace Go.Proofs.YtonhpkigoplmaaaGreatDoor
open Go.RowKit

theorem nval_set : ∀ (l : List Nat) (k d : Nat), k < l.length → nval (l.set k d) + 16777216 ^ k * l.getD k 0 = nval l + 16777216 ^ k * d
  | [], k, d, h => by simp at h
  | a :: r, 0, d, _ => by simp [nval]; omega
  | a :: r, k + 1, d, h => by
    have ih := nval_set r k d (by simpa using h)
    simp only [List.set_cons_succ, nval, List.getD_cons_succ, Nat.pow_succ]
    generalize 16777216 ^ k = P at *
    rw [Nat.mul_comm P 16777216, Nat.mul_assoc, Nat.mul_assoc]
    omega

theorem getD_set (l : List Nat) (k j d : Nat) (h : k ≠ j) : (l.set k d).getD j 0 = l.getD j 0 := by
  simp [List.getD, List.getElem?_set_ne h]

theorem mem_set {l : List Nat} {k d x : Nat} (h : x ∈ l.set k d) : x ∈ l ∨ x = d := List.mem_or_eq_of_mem_set h

/-- What holds of the inner loop's variables. -/
structure InR (l0 y : List Nat) (xi i j c : Nat) (l : List Nat) : Prop where
  len : l.length = l0.length
  dig : ∀ d ∈ l, d < 16777216
  car : c < 16777216
  le : j ≤ y.length ∨ (j = y.length + 1 ∧ c = 0)
  val : nval l + 16777216 ^ (i + j) * c = nval l0 + 16777216 ^ i * (xi * nval (y.take j))
  same : ∀ k, i + j ≤ k → l.getD k 0 = l0.getD k 0

theorem mul_lt_sq {p q : Nat} (hp : p < 16777216) (hq : q < 16777216) : p * q ≤ 281474943156225 := by
  have := Nat.mul_le_mul (show p ≤ 16777215 by omega) (show q ≤ 16777215 by omega)
  omega

theorem InR.step {l0 y l : List Nat} {xi i j c k q : Nat} (h : InR l0 y xi i j c l) (hxi : xi < 16777216) (hy : ∀ d ∈ y, d < 16777216) (hz : ∀ k, i + y.length ≤ k → l0.getD k 0 = 0) (hlen : i + j < l0.length) (hk : l.getD (i + j) 0 = k) (hq : y.getD j 0 = q) (hgo : j < y.length ∨ (¬ j < y.length ∧ 0 < c)) :
    InR l0 y xi i (j + 1) ((k + c + xi * q) / 16777216) (l.set (i + j) ((k + c + xi * q) % 16777216)) := by
  have hk1 : k < 16777216 := by rw [← hk]; exact getD_lt h.dig _
  have hq1 : q < 16777216 := by rw [← hq]; exact getD_lt hy _
  have hm := mul_lt_sq hxi hq1
  have hc := h.car
  have hl : i + j < l.length := by rw [h.len]; exact hlen
  refine ⟨by rw [List.length_set]; exact h.len, ?_, by omega, ?_, ?_, ?_⟩
  · intro d hd
    rcases mem_set hd with hd | rfl
    · exact h.dig d hd
    · omega
  · rcases hgo with hgo | ⟨hgo, hc0⟩
    · exact Or.inl (by omega)
    · have hj : j = y.length := by rcases h.le with h | ⟨_, h⟩ <;> omega
      have hq0 : q = 0 := by rw [← hq]; simp [List.getD, List.getElem?_eq_none (Nat.le_of_not_lt hgo)]
      have hk0 : k = 0 := by rw [← hk, h.same _ (Nat.le_refl _)]; exact hz _ (by omega)
      subst hq0 hk0
      exact Or.inr ⟨by omega, by omega⟩
  · have e1 := nval_set l (i + j) ((k + c + xi * q) % 16777216) hl
    rw [hk] at e1
    have hv := h.val
    rw [nval_take_succ, hq, show i + (j + 1) = (i + j) + 1 by omega, Nat.pow_succ, Nat.mul_add xi, Nat.mul_add (16777216 ^ i)]
    have e2 : 16777216 ^ i * (xi * (16777216 ^ j * q)) = 16777216 ^ (i + j) * (xi * q) := by
      rw [Nat.pow_add, ← Nat.mul_assoc xi, Nat.mul_comm xi (16777216 ^ j), Nat.mul_assoc, Nat.mul_assoc]
    rw [e2]
    generalize 16777216 ^ (i + j) = P at *
    generalize xi * q = m at *
    have e3 : P * (k + c + m) = P * ((k + c + m) % 16777216) + P * (16777216 * ((k + c + m) / 16777216)) := by rw [← Nat.mul_add, Nat.mod_add_div]
    rw [Nat.mul_add, Nat.mul_add, ← Nat.mul_assoc] at e3
    omega
  · intro k' hk'
    rw [getD_set _ _ _ _ (by omega)]
    exact h.same k' (by omega)

/-- What holds of the outer loop's variables. -/
structure OutR (x y : List Nat) (i : Nat) (l : List Nat) : Prop where
  len : l.length = x.length + y.length
  le : i ≤ x.length
  dig : ∀ d ∈ l, d < 16777216
  val : nval l = nval (x.take i) * nval y
  zero : ∀ k, i + y.length ≤ k → l.getD k 0 = 0

theorem OutR.step {x y l0 l : List Nat} {i j xi : Nat} (h : OutR x y i l0) (hi : i < x.length) (hxi : x.getD i 0 = xi) (hI : InR l0 y xi i j 0 l) (hj : ¬ j < y.length) : OutR x y (i + 1) l := by
  refine ⟨by rw [hI.len]; exact h.len, by omega, hI.dig, ?_, ?_⟩
  · have hv := hI.val
    rw [List.take_of_length_le (by omega), Nat.mul_zero, Nat.add_zero, h.val] at hv
    rw [hv, nval_take_succ, hxi, Nat.add_mul, Nat.mul_assoc]
  · intro k hk
    have := hI.le
    rw [hI.same k (by omega)]
    exact h.zero k (by omega)

theorem OutR.start (x y : List Nat) : OutR x y 0 (List.replicate (x.length + y.length) 0) := by
  have hz : ∀ n, nval (List.replicate n 0) = 0 := by
    intro n
    induction n with
    | zero => rfl
    | succ n ih => simp [List.replicate_succ, nval, ih]
  refine ⟨by simp, by omega, ?_, by rw [hz]; simp [nval], ?_⟩
  · intro d hd; rw [List.eq_of_mem_replicate hd]; omega
  · intro k _
    simp only [List.getD, List.getElem?_replicate]
    split <;> rfl

theorem map_set_dv (l : List Nat) (k d : Nat) : (l.set k d).map dv = (l.map dv).set k (dv d) := by simp [List.map_set]

set_option maxHeartbeats 4000000 in
set_option maxRecDepth 100000 in
theorem times_dig (x y : List Nat) (va vb : Value) (w : World) (hx : Dig w va x) (hy : Dig w vb y) (hlx : x.length ≤ 1000000) (hly : y.length ≤ 1000000) :
    Calls Tryz.prog 120 #[va, vb] w fun e w' => ∃ v, e = .returned v ∧ NatV w' v (nval x * nval y) ∧ Below w.heap.size w w' := by
  obtain ⟨i0, hi, hz0, hz1, hz2⟩ := info_parts infoInt
  have HDX : Hid (∀ d ∈ x, d < 16777216) := hx.1
  have HDY : Hid (∀ d ∈ y, d < 16777216) := hy.1
  obtain ⟨ao, ca, rfl, hca, ha⟩ := hx.open
  obtain ⟨bo, cb, rfl, hcb, hb⟩ := hy.open
  have HA : Hid (x.length = 0 ∨ ∃ b off, ao = some ⟨b, off, none⟩ ∧ b < w.heap.size ∧ ∀ i, i < x.length → w.cell? ⟨b, off + i, none⟩ = some (.int .i64 (x.getD i 0 : Nat))) := ha
  have HB : Hid (y.length = 0 ∨ ∃ b off, bo = some ⟨b, off, none⟩ ∧ b < w.heap.size ∧ ∀ i, i < y.length → w.cell? ⟨b, off + i, none⟩ = some (.int .i64 (y.getD i 0 : Nat))) := hb
  clear hx hy ha hb
  go_enter Tryz.func120, Tryz.ntmps120
  go_wp2_with (at_make; refine wpList_make_full _ rfl _ _ 40 rfl w.heap.size 3 i0 (.int .i64 0) 1 Tryz.underlying40 hi hz0 hz1 _ _ _ _ (x.length + y.length) rfl rfl (by omega) (by omega) ?m1 ?m2 ?m3 ?_)
  case m1 => rw [hz2]; omega
  case m2 => unfold maxLen; omega
  case m3 => exact Nat.le_refl _
  intro w1 hown1 hgrow1
  rw [toList_madeCells_one] at hown1
  have hown1 : w1.ownsRow w.heap.size 3 1 (.slice (some ⟨w.heap.size, 0, none⟩) (x.length + y.length) (x.length + y.length)) (x.length + y.length) ((List.replicate (x.length + y.length) 0).map dv) := by
    simpa [dv] using hown1
  have hb1 : Below w.heap.size w w1 := (Below.refl _ _).grown hgrow1 (Nat.le_refl _) (fun k hk => by cases hk)
  clear hgrow1
  go_wp2
  go_loopw [6] (fun v6 wr => ∃ (i : Nat) (l : List Nat), v6 = .int .i64 (i : Int) ∧ wr.ownsRow w.heap.size 3 1 (.slice (some ⟨w.heap.size, 0, none⟩) (x.length + y.length) (x.length + y.length)) (x.length + y.length) (l.map dv) ∧ OutR x y i l ∧ Below w.heap.size w wr) (fun v6 _ => x.length - (intOf v6).toNat)
  case atStart => exact ⟨0, _, rfl, hown1, OutR.start x y, hb1⟩
  case round =>
    obtain ⟨i, l0, rfl, hown0, hO, hbo⟩ := hrel
    have HO : Hid (OutR x y i l0) := hO
    have hil := hO.le
    clear hO hown1 hb1
    by_cases g1 : i < x.length
    · have hgo : x.length ≠ 0 := by omega
      have cxa : ∃ b1 o1, ao = some ⟨b1, o1, none⟩ ∧ b1 < w.heap.size ∧ w.cell? ⟨b1, o1 + i, none⟩ = some (.int .i64 (x.getD i 0 : Nat)) := by
        obtain ⟨b1, o1, h1, h2, h3⟩ := HA.out.resolve_left hgo
        exact ⟨b1, o1, h1, h2, h3 i g1⟩
      obtain ⟨b1, o1, rfl, hb1, c1⟩ := cxa
      generalize hp : x.getD i 0 = p at c1
      have hpl : p < 16777216 := by rw [← hp]; exact getD_lt HDX.out i
      have HP : Hid (x.getD i 0 = p) := hp
      have C1 : Hid (w.cell? ⟨b1, o1 + i, none⟩ = some (.int .i64 (p : Int))) := c1
      clear hp c1
      obtain ⟨wo, rfl⟩ : ∃ wo : World, wo = wr := ⟨_, rfl⟩
      go_wp2
      go_loopw [7, 8] (fun v7 v8 wr => ∃ (j c : Nat) (l : List Nat), v8 = .int .i64 (j : Int) ∧ v7 = .int .i64 (c : Int) ∧ wr.ownsRow w.heap.size 3 1 (.slice (some ⟨w.heap.size, 0, none⟩) (x.length + y.length) (x.length + y.length)) (x.length + y.length) (l.map dv) ∧ InR l0 y p i j c l ∧ Below w.heap.size w wr) (fun _ v8 _ => y.length + 1 - (intOf v8).toNat)
      case atStart => exact ⟨0, 0, l0, rfl, rfl, hown0, ⟨rfl, HO.out.dig, by omega, Or.inl (by omega), by simp [nval], fun _ _ => rfl⟩, hbo⟩
      case round =>
        obtain ⟨j, c, l, rfl, rfl, hown, hI, hbr⟩ := hrel
        have HI : Hid (InR l0 y p i j c l) := hI
        have hcl := hI.car
        have hjl : j ≤ y.length + 1 := by have := hI.le; omega
        have HJ : Hid (j ≤ y.length ∨ (j = y.length + 1 ∧ c = 0)) := hI.le
        clear hI
        have c1 := (hbr.cell (p := ⟨b1, o1 + i, none⟩) hb1).trans C1.out
        have hlen : Hid (l.length = x.length + y.length) := by show l.length = _; rw [HI.out.len, HO.out.len]
        by_cases g2 : j < y.length
        · have cyb : ∃ b2 o2, bo = some ⟨b2, o2, none⟩ ∧ wr.cell? ⟨b2, o2 + j, none⟩ = some (.int .i64 (y.getD j 0 : Nat)) := by
            obtain ⟨b2, o2, h1, h2, h3⟩ := HB.out.resolve_left (by omega)
            exact ⟨b2, o2, h1, by rw [hbr.cell (p := ⟨b2, o2 + j, none⟩) h2, h3 j g2]⟩
          obtain ⟨b2, o2, rfl, c2⟩ := cyb
          generalize hq : y.getD j 0 = q at c2
          have hql : q < 16777216 := by rw [← hq]; exact getD_lt HDY.out j
          have HQ : Hid (y.getD j 0 = q) := hq
          clear hq
          have c3 : wr.cell? ⟨w.heap.size, i + j, none⟩ = some (.int .i64 (l.getD (i + j) 0 : Nat)) := by
            rw [hown.cellAt (i + j) (by omega)]
            have : i + j < l.length := by rw [hlen.out]; omega
            simp [List.getElem?_eq_getElem this, dv]
          generalize hk : l.getD (i + j) 0 = k at c3
          have hkl : k < 16777216 := by rw [← hk]; exact getD_lt HI.out.dig _
          have HK : Hid (l.getD (i + j) 0 = k) := hk
          clear hk
          have hfz := hown.frozenAt (i + j)
          have hm : (p : Int) * (q : Int) ≤ 281474943156225 := by have := mul_lt_sq hpl hql; rw [← Int.natCast_mul]; omega
          have hm0 : 0 ≤ (p : Int) * (q : Int) := by rw [← Int.natCast_mul]; omega
          go_wp2
          go_quiet (fail)
          go_wp2
          go_roundw
          case rel =>
            refine ⟨j + 1, (k + c + p * q) / 16777216, l.set (i + j) ((k + c + p * q) % 16777216), by go_num, ?_, ?_, ?_, ?_⟩
            · rw [← Int.natCast_mul]; go_num
            · have := ((show (wr.drewN nq).ownsRow _ _ _ _ _ _ from hown).stored (i + j) (dv ((k + c + p * q) % 16777216))).1
              rw [map_set_dv]
              rw [← Int.natCast_mul]
              exact this
            · exact HI.out.step hpl HDY.out HO.out.zero (by rw [HO.out.len]; omega) HK.out HQ.out (Or.inl g2)
            · exact (below_drewN hbr nq).setCell (Nat.le_refl _) _
          case measure => simp [intOf]; omega
        · by_cases g3 : 0 < c
          · have hj : j = y.length := by have := HJ.out; omega
            have HJE : Hid (j = y.length) := hj
            clear hj
            have hij : i + j < x.length + y.length := by have := HJE.out; omega
            have c3 : wr.cell? ⟨w.heap.size, i + j, none⟩ = some (.int .i64 (l.getD (i + j) 0 : Nat)) := by
              rw [hown.cellAt (i + j) (by omega)]
              have : i + j < l.length := by rw [hlen.out]; omega
              simp [List.getElem?_eq_getElem this, dv]
            generalize hk : l.getD (i + j) 0 = k at c3
            have hkl : k < 16777216 := by rw [← hk]; exact getD_lt HI.out.dig _
            have HK : Hid (l.getD (i + j) 0 = k) := hk
            clear hk
            have hfz := hown.frozenAt (i + j)
            have hq0 : Hid (y.getD j 0 = 0) := by show y.getD j 0 = 0; simp [List.getD, List.getElem?_eq_none (Nat.le_of_not_lt g2)]
            go_wp2
            go_roundw
            case rel =>
              have S := HI.out.step hpl HDY.out HO.out.zero (by rw [HO.out.len]; omega) HK.out hq0.out (Or.inr ⟨g2, g3⟩)
              rw [Nat.mul_zero, Nat.add_zero] at S
              refine ⟨j + 1, (k + c) / 16777216, l.set (i + j) ((k + c) % 16777216), by go_num, by go_num, ?_, S, ?_⟩
              · have := (hown.stored (i + j) (dv ((k + c) % 16777216))).1
                rw [map_set_dv]
                exact this
              · exact hbr.setCell (Nat.le_refl _) _
            case measure => have := HJE.out; simp [intOf]; omega
          · have hc0 : c = 0 := by omega
            subst hc0
            go_wp2
            go_roundw
            case rel => exact ⟨i + 1, l, by go_num, hown, HO.out.step g1 HP.out HI.out g2, hbr⟩
            case measure => simp [intOf]; omega
    · have hie : i = x.length := by omega
      subst hie
      have hD : Dig wr (.slice (some ⟨w.heap.size, 0, none⟩) (x.length + y.length) (x.length + y.length)) l0 := by
        have h1 := hown0
        rw [← HO.out.len] at h1 ⊢
        exact Dig.of_owns h1 HO.out.dig
      have hlen : Hid (l0.length ≤ 2000000) := by show _ ≤ _; rw [HO.out.len]; omega
      go_wp2_with fail
      refine (trim_any l0 _ _ hD hlen.out).mono ?_
      rintro e w' ⟨v', rfl, hN, rfl⟩
      have e : nval l0 = nval x * nval y := by rw [HO.out.val, List.take_of_length_le (Nat.le_refl _)]
      rw [e] at hN
      clear e
      go_wp2_with fail
      go_ret
      exact ⟨_, rfl, hN, hbo⟩

theorem times_any (a b : Nat) (va vb : Value) (w : World) (ha : NatV w va a) (hb : NatV w vb b) (hla : (digits a).length ≤ 1000000) (hlb : (digits b).length ≤ 1000000) :
    Calls Tryz.prog 120 #[va, vb] w fun e w' => ∃ v, e = .returned v ∧ NatV w' v (a * b) ∧ Below w.heap.size w w' := by
  have := times_dig _ _ va vb w ha hb hla hlb
  rwa [nval_digits, nval_digits] at this
end Go.Proofs.YtonhpkigoplmaaaGreatDoor
namespace Go.Proofs.YtonhpkigoplmaaaGreatDoor
open Go.RowKit

theorem nval_replicate_zero (n : Nat) : nval (List.replicate n 0) = 0 := by
  induction n with
  | zero => rfl
  | succ n ih => simp [List.replicate_succ, nval, ih]

theorem canon_append {x y : List Nat} (hy : y ≠ []) (h : Canon y) : Canon (x ++ y) := by
  unfold Canon at *
  rw [List.getLast?_append]
  cases e : y.getLast? with
  | none => exact absurd (List.getLast?_eq_none_iff.1 e) hy
  | some z => rw [e] at h; simpa using h

theorem up_digits {a k : Nat} (ha : a ≠ 0) : digits (a * 2 ^ k) = List.replicate (k / 24) 0 ++ digits (a * 2 ^ (k % 24)) := by
  have hne : digits (a * 2 ^ (k % 24)) ≠ [] := by
    rw [Ne, digits_nil_iff]
    exact Nat.mul_ne_zero ha (Nat.ne_of_gt (Nat.two_pow_pos _))
  have h := digits_of (List.replicate (k / 24) 0 ++ digits (a * 2 ^ (k % 24)))
    (fun d hd => by
      rcases List.mem_append.1 hd with hd | hd
      · rw [List.eq_of_mem_replicate hd]; omega
      · exact digits_lt _ d hd) (canon_append hne (canon_digits _))
  rw [nval_append, nval_replicate_zero, nval_digits, List.length_replicate, Nat.zero_add] at h
  rw [← h]
  congr 1
  have e : (16777216 : Nat) = 2 ^ 24 := rfl
  rw [e, ← Nat.pow_mul, Nat.mul_comm (2 ^ (24 * (k / 24))), Nat.mul_assoc, ← Nat.pow_add]
  congr 2
  omega

theorem pow24 {k : Nat} (h : k < 24) : 2 ^ k ≤ 8388608 := by
  have : 2 ^ k ≤ 2 ^ 23 := Nat.pow_le_pow_right (by decide) (by omega)
  simpa using this

theorem ownsRow_below {w w' : World} {base : Nat} {e : TypeId} {size : Nat} {v : Value} {n : Nat} {xs : List Value} (h : w.ownsRow base e size v n xs) (hb : Below w.heap.size w w') : w'.ownsRow base e size v n xs := by
  obtain ⟨h1, h2⟩ := h
  refine ⟨h1, ?_⟩
  rcases h2 with h2 | ⟨g, cap, cur, hv, hg, hh, r⟩
  · exact Or.inl h2
  · exact Or.inr ⟨g, cap, cur, hv, hg, by rw [hb.block g (Array.getElem?_eq_some_iff.1 hh).1]; exact hh, r⟩

theorem len_up (a k : Nat) : (digits (a * 2 ^ (k % 24))).length ≤ (digits a).length + 1 := by
  apply len_of_lt
  rw [Nat.pow_succ]
  have h1 := lt_pow_len a
  have h2 := pow24 (Nat.mod_lt k (by decide : 0 < 24))
  have h3 : a * 2 ^ (k % 24) ≤ a * 8388608 := Nat.mul_le_mul_left _ h2
  omega

theorem wrap_pow24 (k : Nat) : wrap64 (2 ^ (k % 24)) = ((2 ^ (k % 24) : Nat) : Int) := by
  have h := pow24 (Nat.mod_lt k (by decide : 0 < 24))
  have e : (2 : Int) ^ (k % 24) = ((2 ^ (k % 24) : Nat) : Int) := by rw [Int.natCast_pow]; rfl
  rw [e]
  clear e
  generalize (2 ^ (k % 24) : Nat) = m at h ⊢
  unfold wrap64; omega

set_option maxHeartbeats 4000000 in
set_option maxRecDepth 100000 in
theorem up_any (a k : Nat) (va : Value) (w : World) (ha : NatV w va a) (hla : (digits a).length ≤ 500000) (hk : k ≤ 1000000) :
    Calls Tryz.prog 123 #[va, .int .i64 (k : Int)] w fun e w' => ∃ v, e = .returned v ∧ NatV w' v (a * 2 ^ k) ∧ Below w.heap.size w w' := by
  obtain ⟨i0, hi, hz0, hz1, hz2⟩ := info_parts infoInt
  have HA : Hid (NatV w va a) := ha
  obtain ⟨ao, ca, hv, hca, hcell⟩ := ha.open
  by_cases h0 : a = 0
  · subst h0
    rw [digits_zero] at hv
    subst hv
    clear hcell ha HA
    go_enter Tryz.func123, Tryz.ntmps123
    go_wp2
    go_ret
    refine ⟨_, rfl, ?_, Below.refl _ _⟩
    rw [Nat.zero_mul]
    exact ⟨by simp [digits_zero], Or.inl ⟨rfl, rfl⟩⟩
  · have hl0 : (((digits a).length : Int) == 0) = false := by
      have : digits a ≠ [] := fun e => h0 ((digits_nil_iff a).1 e)
      have : (digits a).length ≠ 0 := fun e => this (List.length_eq_zero_iff.1 e)
      simp; omega
    rw [hv]
    rw [hv] at HA
    clear hcell ha hv
    go_enter Tryz.func123, Tryz.ntmps123
    go_wp2_with (at_make; refine wpList_make_full _ rfl _ _ 40 rfl w.heap.size 3 i0 (.int .i64 0) 1 Tryz.underlying40 hi hz0 hz1 _ _ _ _ (k / 24) rfl rfl (by omega) (by omega) ?m1 ?m2 ?m3 ?_)
    case m1 => rw [hz2]; omega
    case m2 => unfold maxLen; omega
    case m3 => exact Nat.le_refl _
    intro w1 hown1 hgrow1
    rw [toList_madeCells_one] at hown1
    have hown1 : w1.ownsRow w.heap.size 3 1 (.slice (some ⟨w.heap.size, 0, none⟩) (k / 24) (k / 24)) (k / 24) ((List.replicate (k / 24) 0).map dv) := by
      simpa [dv] using hown1
    have hb1 : Below w.heap.size w w1 := (Below.refl _ _).grown hgrow1 (Nat.le_refl _) (fun k hk => by cases hk)
    clear hgrow1
    go_wp2_with fail
    rw [wrap_pow24]
    refine (nat_any (2 ^ (k % 24)) _ (by have := pow24 (Nat.mod_lt k (by decide : 0 < 24)); omega)).mono ?_
    rintro e w2 ⟨v2, rfl, hN2, hb2⟩
    have HA2 := (HA.out.below hb1 (Nat.le_refl _)).below hb2 (Nat.le_refl _)
    go_wp2_with fail
    refine (times_any a (2 ^ (k % 24)) _ _ _ HA2 hN2 (by omega) (by have := len_of_lt2 (n := 2 ^ (k % 24)) (k := 24) (by have := pow24 (Nat.mod_lt k (by decide : 0 < 24)); omega); omega)).mono ?_
    rintro e w3 ⟨v3, rfl, hN3, hb3⟩
    have hbA : Below w.heap.size w w3 := (hb1.trans (hb2.mono hb1.size)).trans (hb3.mono (Nat.le_trans hb1.size hb2.size))
    have hne : digits (a * 2 ^ (k % 24)) ≠ [] := by
      rw [Ne, digits_nil_iff]
      exact Nat.mul_ne_zero h0 (Nat.ne_of_gt (Nat.two_pow_pos _))
    obtain ⟨ao3, c3, rfl, hc3, hcell3⟩ := hN3.open
    obtain ⟨b3, o3, rfl, hbl3, hcell3⟩ := hcell3.resolve_left (fun e => hne (List.length_eq_zero_iff.1 e))
    have hl3 := len_up a k
    have hown3 := ownsRow_below (ownsRow_below hown1 hb2) hb3
    have HUP : Hid (digits (a * 2 ^ k) = List.replicate (k / 24) 0 ++ digits (a * 2 ^ (k % 24))) := up_digits h0
    have hd3 : Hid (∀ d ∈ digits (a * 2 ^ (k % 24)), d < 16777216) := digits_lt _
    clear hN2 hN3 HA2 hown1 hb1 hb2 hb3 hne
    generalize digits (a * 2 ^ (k % 24)) = l3 at *
    have hcl : Hid (∀ i, i < l3.length → w3.cell? ⟨b3, o3 + i, none⟩ = some (.int .i64 (l3.getD i 0 : Nat))) := hcell3
    clear hcell3
    go_wp2_with (first
      | (at_builtin; refine wpList_append_own _ rfl _ _ 40 rfl w.heap.size 3 i0 (.int .i64 0) 1 8 Tryz.underlying40 hi hz0 hz1 hz2 rfl (by decide) _ _ _ rfl hown3 ⟨b3, o3, none⟩ l3.length c3 (l3.map dv) rfl (by simp) ?a1 ?a2 ?a3 ?a4 ?a5 ?_)
      | go_in)
    case a1 =>
      intro j u hj
      rw [List.getElem?_map] at hj
      have hjl : j < l3.length := by
        rcases Nat.lt_or_ge j l3.length with h | h
        · exact h
        · rw [List.getElem?_eq_none h] at hj; simp at hj
      rw [List.getElem?_eq_getElem hjl] at hj
      have := hcl.out j hjl
      have ea : (Addr.mk b3 o3 none).add j = ⟨b3, o3 + j, none⟩ := by
        by_cases h : j = 0
        · subst h; simp [Addr.add]
        · simp [Addr.add, h]
      rw [ea, this]
      simpa [dv, List.getD, List.getElem?_eq_getElem hjl] using hj
    case a2 =>
      intro u hu
      obtain ⟨d, _, rfl⟩ := List.mem_map.1 hu
      rfl
    case a3 => unfold maxLen; omega
    case a4 => omega
    case a5 => have := hbA.size; omega
    intro v' w4 hown4 hgrow4 _
    have hb4 : Below w.heap.size w w4 := hbA.grown hgrow4 (hbA.size) (fun k hk => (hown3.lt k hk).1)
    have hfin : NatV w4 v' (a * 2 ^ k) := by
      unfold NatV
      rw [HUP.out]
      refine Dig.of_owns (B := w.heap.size) ?_ ?_
      · simpa using hown4
      · intro d hd
        rcases List.mem_append.1 hd with hd | hd
        · rw [List.eq_of_mem_replicate hd]; omega
        · exact hd3.out d hd
    clear hown4 hgrow4 hown3
    go_wp2
    go_ret
    exact ⟨_, rfl, hfin, hb4⟩
end Go.Proofs.YtonhpkigoplmaaaGreatDoor
namespace Go.Proofs.YtonhpkigoplmaaaGreatDoor
open Go.RowKit

/-- A value of type Num: a sign, a natural number, a power of two. -/
def NumV (w : World) (x : Value) (s : Bool) (n : Nat) (e : Int) : Prop :=
  ∃ ao len cap, x = .agg #[.bool s, .slice ao len cap, .int .i64 e] ∧ len = (digits n).length ∧ NatV w (.slice ao len cap) n

theorem NatV.slice {w : World} {v : Value} {n : Nat} (h : NatV w v n) : ∃ ao cap, v = .slice ao (digits n).length cap := by
  obtain ⟨ao, cap, rfl, _⟩ := h.open
  exact ⟨_, _, rfl⟩

/-- A block of cells of a type. -/
def BoxT (w : World) (g : Nat) (t : TypeId) : Prop := ∃ (vs : Array Value) (fz : Nat × Nat), w.heap[g]? = some (Obj.cells vs t fz)
theorem BoxT.of {w : World} {g : Nat} {t : TypeId} {vs : Array Value} {fz : Nat × Nat} (h : w.heap[g]? = some (Obj.cells vs t fz)) : BoxT w g t := ⟨vs, fz, h⟩
theorem BoxT.set {w : World} {g : Nat} {t : TypeId} (h : BoxT w g t) {a : Addr} {u : Value} : BoxT (w.setCell a u) g t := by
  obtain ⟨vs, fz, h⟩ := h
  by_cases e : g = a.block
  · subst e
    simp only [BoxT, World.setCell, Array.getElem?_modify, if_true, h, Option.map_some]
    exact ⟨_, _, rfl⟩
  · exact ⟨vs, fz, by rw [Below.heap_setCell _ _ _ _ e]; exact h⟩
theorem Keeps.set {a w : World} (k : Keeps a w) {g j : Nat} {t : TypeId} (h : BoxT w g t) (ht : t ≠ 3) {u : Value} : Keeps a (w.setCell ⟨g, j, none⟩ u) := fun b cur hb => by
  obtain ⟨vs, fz, h⟩ := h
  have h1 := k b cur hb
  have hne : b ≠ g := by
    rintro rfl
    rw [h] at h1
    simp only [Option.some.injEq, Obj.cells.injEq] at h1
    exact ht h1.2.1
  rw [Below.heap_setCell _ _ _ _ (by exact hne)]
  exact h1

theorem NatV.zero (w : World) : NatV w (.slice none 0 0) 0 := ⟨by simp [digits_zero], Or.inl ⟨rfl, rfl⟩⟩

theorem len_zero_iff (n : Nat) : (digits n).length = 0 ↔ n = 0 := by rw [List.length_eq_zero_iff, digits_nil_iff]

/-- The sign that negated gives. -/
def negS (s : Bool) (n : Nat) : Bool := !s && decide (n ≠ 0)

theorem negated_any (x : Value) (s : Bool) (n : Nat) (e : Int) (w : World) (h : NumV w x s n e) :
    Calls Tryz.prog 61 #[x] w fun ev w' => ∃ x', ev = .returned x' ∧ NumV w' x' (negS s n) n e ∧ Below w.heap.size w w' := by
  obtain ⟨ao, len, cap, rfl, hl, hN⟩ := h
  have HL : Hid (len = (digits n).length) := hl
  clear hl
  cases s
  · by_cases h0 : len = 0
    · subst h0
      have e0 : n = 0 := (len_zero_iff n).1 HL.out.symm
      have r : negS false n = false := by simp [negS, e0]
      rw [r]
      have fin : ∀ W, Below w.heap.size w W → ∃ x', Ending.returned (.agg #[.bool false, .slice ao 0 cap, .int .i64 e]) = .returned x' ∧ NumV W x' false n e ∧ Below w.heap.size w W := fun W hW => ⟨_, rfl, ⟨_, _, _, rfl, HL.out, hN.below hW (Nat.le_refl _)⟩, hW⟩
      clear e0 r hN
      go_enter Tryz.func61, Tryz.ntmps61
      go_wp2
      refine bodyPost_ret (v := .agg #[.bool false, .slice ao 0 cap, .int .i64 e]) (by simp [results, Tryz.results61, go_sem]) rfl ?_
      exact fin _ (((Below.refl _ _).alloc (Nat.le_refl _) _).alloc (by simp) _)
    · have e0 : n ≠ 0 := fun h => h0 (by rw [HL.out]; exact (len_zero_iff n).2 h)
      have r : negS false n = true := by simp [negS, e0]
      rw [r]
      have fin : ∀ W, Below w.heap.size w W → ∃ x', Ending.returned (.agg #[.bool true, .slice ao len cap, .int .i64 e]) = .returned x' ∧ NumV W x' true n e ∧ Below w.heap.size w W := fun W hW => ⟨_, rfl, ⟨_, _, _, rfl, HL.out, hN.below hW (Nat.le_refl _)⟩, hW⟩
      have h1 : 0 < len := by omega
      clear e0 r hN
      go_enter Tryz.func61, Tryz.ntmps61
      go_wp2
      refine bodyPost_ret (v := .agg #[.bool true, .slice ao len cap, .int .i64 e]) (by simp [results, Tryz.results61, go_sem]) rfl ?_
      exact fin _ (((Below.refl _ _).alloc (Nat.le_refl _) _).alloc (by simp) _)
  · · have r : negS true n = false := by simp [negS]
      rw [r]
      have fin : ∀ W, Below w.heap.size w W → ∃ x', Ending.returned (.agg #[.bool false, .slice ao len cap, .int .i64 e]) = .returned x' ∧ NumV W x' false n e ∧ Below w.heap.size w W := fun W hW => ⟨_, rfl, ⟨_, _, _, rfl, HL.out, hN.below hW (Nat.le_refl _)⟩, hW⟩
      clear r hN
      go_enter Tryz.func61, Tryz.ntmps61
      go_wp2
      refine bodyPost_ret (v := .agg #[.bool false, .slice ao len cap, .int .i64 e]) (by simp [results, Tryz.results61, go_sem]) rfl ?_
      exact fin _ (((Below.refl _ _).alloc (Nat.le_refl _) _).alloc (by simp) _)

/-- What sign tells. -/
def sgnI (s : Bool) (n : Nat) : Int := if n = 0 then 0 else if s then -1 else 1

theorem sign_any (x : Value) (s : Bool) (n : Nat) (e : Int) (w : World) (h : NumV w x s n e) :
    Calls Tryz.prog 69 #[x] w fun ev w' => ev = .returned (.int .i64 (sgnI s n)) ∧ Below w.heap.size w w' := by
  obtain ⟨ao, len, cap, rfl, hl, hN⟩ := h
  have HL : Hid (len = (digits n).length) := hl
  clear hl hN
  by_cases h0 : len = 0
  · subst h0
    have e0 : n = 0 := (len_zero_iff n).1 HL.out.symm
    rw [show sgnI s n = 0 by simp [sgnI, e0]]
    clear e0
    go_enter Tryz.func69, Tryz.ntmps69
    go_wp2
    go_ret
    exact ⟨rfl, (Below.refl _ _).alloc (Nat.le_refl _) _⟩
  · have e0 : n ≠ 0 := fun h => h0 (by rw [HL.out]; exact (len_zero_iff n).2 h)
    have h1 : ((len : Int) == 0) = false := by simp; omega
    cases s
    · rw [show sgnI false n = 1 by simp [sgnI, e0]]
      clear e0
      go_enter Tryz.func69, Tryz.ntmps69
      go_wp2
      go_ret
      exact ⟨rfl, (Below.refl _ _).alloc (Nat.le_refl _) _⟩
    · rw [show sgnI true n = -1 by simp [sgnI, e0]]
      clear e0
      go_enter Tryz.func69, Tryz.ntmps69
      go_wp2
      go_ret
      exact ⟨rfl, (Below.refl _ _).alloc (Nat.le_refl _) _⟩
end Go.Proofs.YtonhpkigoplmaaaGreatDoor
namespace Go.Proofs.YtonhpkigoplmaaaGreatDoor
open Go.RowKit

theorem blk3 {W : World} {g : Nat} {a b c : Value} {t : TypeId} (h : W.heap[g]? = some (.cells #[a, b, c] t (0, 0))) :
    W.cell? ⟨g, 0, none⟩ = some a ∧ W.cell? ⟨g, 1, none⟩ = some b ∧ W.cell? ⟨g, 2, none⟩ = some c ∧ W.frozen? ⟨g, 0, none⟩ = false ∧ W.frozen? ⟨g, 1, none⟩ = false ∧ W.frozen? ⟨g, 2, none⟩ = false :=
  ⟨by simp [World.cell?, h], by simp [World.cell?, h], by simp [World.cell?, h], by simp [World.frozen?, h], by simp [World.frozen?, h], by simp [World.frozen?, h]⟩

theorem blk_new (w : World) (o : Obj) : (w.alloc o).heap[w.heap.size]? = some o := heap_alloc_new w o
theorem blk_old {w : World} {g : Nat} {x : Obj} (h : w.heap[g]? = some x) (o : Obj) : (w.alloc o).heap[g]? = some x := by
  rw [Below.heap_alloc _ _ _ (Array.getElem?_eq_some_iff.1 h).1]; exact h
theorem blk_below {w w1 : World} {g : Nat} {x : Obj} (h : w.heap[g]? = some x) (hb : Below w.heap.size w w1) : w1.heap[g]? = some x := by
  rw [hb.block g (Array.getElem?_eq_some_iff.1 h).1]; exact h

set_option maxHeartbeats 1000000 in
set_option maxRecDepth 100000 in
theorem level_any (xa xb : Value) (sa sb : Bool) (na nb : Nat) (ea eb : Int) (w : World) (ha : NumV w xa sa na ea) (hb : NumV w xb sb nb eb)
    (hla : (digits na).length ≤ 500000) (hlb : (digits nb).length ≤ 500000) (he1 : -400000 ≤ ea) (he2 : ea ≤ 400000) (he3 : -400000 ≤ eb) (he4 : eb ≤ 400000) :
    Calls Tryz.prog 116 #[xa, xb] w fun ev w' => ∃ ya yb, ev = .returned (.tuple #[ya, yb]) ∧ NumV w' ya sa (na * 2 ^ (ea - min ea eb).toNat) (min ea eb) ∧ NumV w' yb sb (nb * 2 ^ (eb - min ea eb).toNat) (min ea eb) ∧ Below w.heap.size w w' := by
  obtain ⟨ao, la, ca, rfl, hl1, hNa⟩ := ha
  obtain ⟨bo, lb, cb, rfl, hl2, hNb⟩ := hb
  have HL1 : Hid (la = (digits na).length) := hl1
  have HL2 : Hid (lb = (digits nb).length) := hl2
  clear hl1 hl2
  by_cases hgt : eb < ea
  · obtain ⟨k, rfl⟩ : ∃ k : Nat, ea = eb + (k : Int) := ⟨(ea - eb).toNat, by omega⟩
    go_enter Tryz.func116, Tryz.ntmps116
    go_wp2_with fail
    rw [show eb + (k : Int) - eb = (k : Int) by omega]
    have hW : Below w.heap.size w ((((w.alloc (Obj.cells #[Value.bool sa, Value.slice ao la ca, Value.int IntKind.i64 (eb + ↑k)] 92)).alloc (Obj.cells #[Value.bool sb, Value.slice bo lb cb, Value.int IntKind.i64 eb] 92)).alloc (Obj.cells #[Value.bool false, Value.slice none 0 0, Value.int IntKind.i64 0] 92)).alloc (Obj.cells #[Value.bool false, Value.slice none 0 0, Value.int IntKind.i64 0] 92)) :=
      ((((Below.refl _ _).alloc (Nat.le_refl _) _).alloc (by simp) _).alloc (by simp; omega) _).alloc (by simp; omega) _
    refine (up_any na k _ _ (hNa.below hW (Nat.le_refl _)) hla (by omega)).mono ?_
    rintro e w1 ⟨v1, rfl, hN1, hb1⟩
    obtain ⟨ao1, ca1, rfl⟩ := hN1.slice
    have hbA : Below w.heap.size w w1 := hW.trans (hb1.mono hW.size)
    have g0 : BoxT w1 w.heap.size 92 := BoxT.of (blk_below (blk_old (blk_old (blk_old (blk_new w _) _) _) _) hb1)
    have g1 : BoxT w1 (w.heap.size + 1) 92 := BoxT.of (by have := blk_below (blk_old (blk_old (blk_new (w.alloc _) _) _) _) hb1; simpa only [World.size_alloc] using this)
    have g2 : BoxT w1 (w.heap.size + 1 + 1) 92 := BoxT.of (by have := blk_below (blk_old (blk_new ((w.alloc _).alloc _) _) _) hb1; simpa only [World.size_alloc] using this)
    have g3 : BoxT w1 (w.heap.size + 1 + 1 + 1) 92 := BoxT.of (by have := blk_below (blk_new (((w.alloc _).alloc _).alloc _) _) hb1; simpa only [World.size_alloc] using this)
    obtain ⟨k00, k01, k02, k03, k04, k05⟩ := blk3 (blk_below (blk_old (blk_old (blk_old (blk_new w _) _) _) _) hb1)
    obtain ⟨k10, k11, k12, k13, k14, k15⟩ := blk3 (blk_below (blk_old (blk_old (blk_new (w.alloc _) _) _) _) hb1)
    obtain ⟨k20, k21, k22, k23, k24, k25⟩ := blk3 (blk_below (blk_old (blk_new ((w.alloc _).alloc _) _) _) hb1)
    obtain ⟨k30, k31, k32, k33, k34, k35⟩ := blk3 (blk_below (blk_new (((w.alloc _).alloc _).alloc _) _) hb1)
    simp only [World.size_alloc] at k10 k11 k12 k13 k14 k15 k20 k21 k22 k23 k24 k25 k30 k31 k32 k33 k34 k35
    have fin : ∀ W, Below w.heap.size w W → Keeps w1 W → ∃ ya yb, Ending.returned (.tuple #[.agg #[.bool sa, .slice ao1 (digits (na * 2 ^ k)).length ca1, .int .i64 eb], .agg #[.bool sb, .slice bo lb cb, .int .i64 eb]]) = .returned (.tuple #[ya, yb]) ∧ NumV W ya sa (na * 2 ^ (eb + (k : Int) - min (eb + (k : Int)) (eb)).toNat) (min (eb + (k : Int)) (eb)) ∧ NumV W yb sb (nb * 2 ^ (eb - min (eb + (k : Int)) (eb)).toNat) (min (eb + (k : Int)) (eb)) ∧ Below w.heap.size w W := by
      intro W hW1 hK
      rw [show min (eb + (k : Int)) (eb) = eb by omega]
      rw [show (eb + (k : Int) - eb).toNat = k by omega, show (eb - eb).toNat = 0 by omega]
      rw [Nat.pow_zero, Nat.mul_one]
      exact ⟨_, _, rfl, ⟨_, _, _, rfl, rfl, hN1.keeps hK⟩, ⟨_, _, _, rfl, HL2.out, (hNb.below hbA (Nat.le_refl _)).keeps hK⟩, hW1⟩
    clear hW hN1 hb1 hNa hNb
    go_wp2_with fail
    go_region
    go_wp2
    refine bodyPost_ret (v := .tuple #[.agg #[.bool sa, .slice ao1 (digits (na * 2 ^ k)).length ca1, .int .i64 eb], .agg #[.bool sb, .slice bo lb cb, .int .i64 eb]]) (by simp [results, Tryz.results116, go_sem, k20, k21, k22, k30, k31, k32]) rfl ?_
    refine fin _ ?_ ?_
    · refine Below.drew ?_
      repeat refine Below.setCell ?_ (by simp; try omega) _
      exact hbA
    · refine Keeps.trans ?_ (Keeps.drew _)
      repeat refine Keeps.set ?_ (t := 92) (by (repeat refine BoxT.set ?_); first | exact g0 | exact g1 | exact g2 | exact g3) (by decide)
      exact Keeps.refl _
  · obtain ⟨k, rfl⟩ : ∃ k : Nat, eb = ea + (k : Int) := ⟨(eb - ea).toNat, by omega⟩
    go_enter Tryz.func116, Tryz.ntmps116
    go_wp2_with fail
    rw [show ea + (k : Int) - ea = (k : Int) by omega]
    have hW : Below w.heap.size w ((((w.alloc (Obj.cells #[Value.bool sa, Value.slice ao la ca, Value.int IntKind.i64 ea] 92)).alloc (Obj.cells #[Value.bool sb, Value.slice bo lb cb, Value.int IntKind.i64 (ea + ↑k)] 92)).alloc (Obj.cells #[Value.bool false, Value.slice none 0 0, Value.int IntKind.i64 0] 92)).alloc (Obj.cells #[Value.bool false, Value.slice none 0 0, Value.int IntKind.i64 0] 92)) :=
      ((((Below.refl _ _).alloc (Nat.le_refl _) _).alloc (by simp) _).alloc (by simp; omega) _).alloc (by simp; omega) _
    refine (up_any nb k _ _ (hNb.below hW (Nat.le_refl _)) hlb (by omega)).mono ?_
    rintro e w1 ⟨v1, rfl, hN1, hb1⟩
    obtain ⟨ao1, ca1, rfl⟩ := hN1.slice
    have hbA : Below w.heap.size w w1 := hW.trans (hb1.mono hW.size)
    have g0 : BoxT w1 w.heap.size 92 := BoxT.of (blk_below (blk_old (blk_old (blk_old (blk_new w _) _) _) _) hb1)
    have g1 : BoxT w1 (w.heap.size + 1) 92 := BoxT.of (by have := blk_below (blk_old (blk_old (blk_new (w.alloc _) _) _) _) hb1; simpa only [World.size_alloc] using this)
    have g2 : BoxT w1 (w.heap.size + 1 + 1) 92 := BoxT.of (by have := blk_below (blk_old (blk_new ((w.alloc _).alloc _) _) _) hb1; simpa only [World.size_alloc] using this)
    have g3 : BoxT w1 (w.heap.size + 1 + 1 + 1) 92 := BoxT.of (by have := blk_below (blk_new (((w.alloc _).alloc _).alloc _) _) hb1; simpa only [World.size_alloc] using this)
    obtain ⟨k00, k01, k02, k03, k04, k05⟩ := blk3 (blk_below (blk_old (blk_old (blk_old (blk_new w _) _) _) _) hb1)
    obtain ⟨k10, k11, k12, k13, k14, k15⟩ := blk3 (blk_below (blk_old (blk_old (blk_new (w.alloc _) _) _) _) hb1)
    obtain ⟨k20, k21, k22, k23, k24, k25⟩ := blk3 (blk_below (blk_old (blk_new ((w.alloc _).alloc _) _) _) hb1)
    obtain ⟨k30, k31, k32, k33, k34, k35⟩ := blk3 (blk_below (blk_new (((w.alloc _).alloc _).alloc _) _) hb1)
    simp only [World.size_alloc] at k10 k11 k12 k13 k14 k15 k20 k21 k22 k23 k24 k25 k30 k31 k32 k33 k34 k35
    have fin : ∀ W, Below w.heap.size w W → Keeps w1 W → ∃ ya yb, Ending.returned (.tuple #[.agg #[.bool sa, .slice ao la ca, .int .i64 ea], .agg #[.bool sb, .slice ao1 (digits (nb * 2 ^ k)).length ca1, .int .i64 ea]]) = .returned (.tuple #[ya, yb]) ∧ NumV W ya sa (na * 2 ^ (ea - min (ea) (ea + (k : Int))).toNat) (min (ea) (ea + (k : Int))) ∧ NumV W yb sb (nb * 2 ^ (ea + (k : Int) - min (ea) (ea + (k : Int))).toNat) (min (ea) (ea + (k : Int))) ∧ Below w.heap.size w W := by
      intro W hW1 hK
      rw [show min (ea) (ea + (k : Int)) = ea by omega]
      rw [show (ea - ea).toNat = 0 by omega, show (ea + (k : Int) - ea).toNat = k by omega]
      rw [Nat.pow_zero, Nat.mul_one]
      exact ⟨_, _, rfl, ⟨_, _, _, rfl, HL1.out, (hNa.below hbA (Nat.le_refl _)).keeps hK⟩, ⟨_, _, _, rfl, rfl, hN1.keeps hK⟩, hW1⟩
    clear hW hN1 hb1 hNa hNb
    go_wp2_with fail
    go_region
    go_wp2
    refine bodyPost_ret (v := .tuple #[.agg #[.bool sa, .slice ao la ca, .int .i64 ea], .agg #[.bool sb, .slice ao1 (digits (nb * 2 ^ k)).length ca1, .int .i64 ea]]) (by simp [results, Tryz.results116, go_sem, k20, k21, k22, k30, k31, k32]) rfl ?_
    refine fin _ ?_ ?_
    · refine Below.drew ?_
      repeat refine Below.setCell ?_ (by simp; try omega) _
      exact hbA
    · refine Keeps.trans ?_ (Keeps.drew _)
      repeat refine Keeps.set ?_ (t := 92) (by (repeat refine BoxT.set ?_); first | exact g0 | exact g1 | exact g2 | exact g3) (by decide)
      exact Keeps.refl _
end Go.Proofs.YtonhpkigoplmaaaGreatDoor
namespace Go.Proofs.YtonhpkigoplmaaaGreatDoor
open Go.RowKit

/-- Both numbers at the lower power of two. -/
def lvA (na : Nat) (ea eb : Int) : Nat := na * 2 ^ (ea - min ea eb).toNat
def lvB (nb : Nat) (ea eb : Int) : Nat := nb * 2 ^ (eb - min ea eb).toNat

/-- What sum gives. -/
def sumN (sa : Bool) (na : Nat) (ea : Int) (sb : Bool) (nb : Nat) (eb : Int) : Bool × Nat × Int :=
  if sa = sb then (sa, lvA na ea eb + lvB nb ea eb, min ea eb)
  else if lvA na ea eb = lvB nb ea eb then (false, 0, 0)
  else if lvB nb ea eb < lvA na ea eb then (sa, lvA na ea eb - lvB nb ea eb, min ea eb)
  else (sb, lvB nb ea eb - lvA na ea eb, min ea eb)

theorem len_mul_pow {n k : Nat} : (digits (n * 2 ^ k)).length ≤ (digits n).length + k / 24 + 1 := by
  apply len_of_lt
  have h1 := lt_pow_len n
  have e : (16777216 : Nat) = 2 ^ 24 := rfl
  rw [e, ← Nat.pow_mul] at h1 ⊢
  have h2 : n * 2 ^ k < 2 ^ (24 * (digits n).length) * 2 ^ k := Nat.mul_lt_mul_of_pos_right h1 (Nat.two_pow_pos _)
  rw [← Nat.pow_add] at h2
  exact Nat.lt_of_lt_of_le h2 (Nat.pow_le_pow_right (by decide) (by omega))

theorem blk_set_ne {W : World} {g g' j : Nat} {x : Obj} {u : Value} (h : W.heap[g]? = some x) (hne : g ≠ g') : (W.setCell ⟨g', j, none⟩ u).heap[g]? = some x := by
  rw [Below.heap_setCell _ _ _ _ (by exact hne)]; exact h

theorem blk_store3 {W : World} {g : Nat} {a b c a' b' c' : Value} {t : TypeId} (h : W.heap[g]? = some (.cells #[a', b', c'] t (0, 0))) :
    (((W.setCell ⟨g, 0, none⟩ a).setCell ⟨g, 1, none⟩ b).setCell ⟨g, 2, none⟩ c).heap[g]? = some (.cells #[a, b, c] t (0, 0)) := by
  have := heap_setCell_same _ g 2 _ t c (heap_setCell_same _ g 1 _ t b (heap_setCell_same W g 0 _ t a h))
  simpa using this

theorem blk_store3_ne {W : World} {g g' : Nat} {x : Obj} {a b c : Value} (h : W.heap[g]? = some x) (hne : g ≠ g') : (((W.setCell ⟨g', 0, none⟩ a).setCell ⟨g', 1, none⟩ b).setCell ⟨g', 2, none⟩ c).heap[g]? = some x :=
  blk_set_ne (blk_set_ne (blk_set_ne h hne) hne) hne

/-- Two boxes of Nums are written, a third is not. -/
theorem store_two {w0 w1 : World} {N M : Nat} {a b c a2 b2 c2 p0 p1 p2 q0 q1 q2 r0 r1 r2 : Value} (B0 : w1.heap[N]? = some (.cells #[p0, p1, p2] 92 (0, 0))) (B1 : w1.heap[N + 1]? = some (.cells #[q0, q1, q2] 92 (0, 0)))
    (B2 : w1.heap[N + 1 + 1]? = some (.cells #[r0, r1, r2] 92 (0, 0))) (hb : Below M w0 w1) (hN : M ≤ N) :
    ((((((w1.setCell ⟨N, 0, none⟩ a).setCell ⟨N, 1, none⟩ b).setCell ⟨N, 2, none⟩ c).setCell ⟨N + 1, 0, none⟩ a2).setCell ⟨N + 1, 1, none⟩ b2).setCell ⟨N + 1, 2, none⟩ c2).heap[N]? = some (.cells #[a, b, c] 92 (0, 0)) ∧ ((((((w1.setCell ⟨N, 0, none⟩ a).setCell ⟨N, 1, none⟩ b).setCell ⟨N, 2, none⟩ c).setCell ⟨N + 1, 0, none⟩ a2).setCell ⟨N + 1, 1, none⟩ b2).setCell ⟨N + 1, 2, none⟩ c2).heap[N + 1]? = some (.cells #[a2, b2, c2] 92 (0, 0)) ∧ ((((((w1.setCell ⟨N, 0, none⟩ a).setCell ⟨N, 1, none⟩ b).setCell ⟨N, 2, none⟩ c).setCell ⟨N + 1, 0, none⟩ a2).setCell ⟨N + 1, 1, none⟩ b2).setCell ⟨N + 1, 2, none⟩ c2).heap[N + 1 + 1]? = some (.cells #[r0, r1, r2] 92 (0, 0)) ∧ Below M w0 ((((((w1.setCell ⟨N, 0, none⟩ a).setCell ⟨N, 1, none⟩ b).setCell ⟨N, 2, none⟩ c).setCell ⟨N + 1, 0, none⟩ a2).setCell ⟨N + 1, 1, none⟩ b2).setCell ⟨N + 1, 2, none⟩ c2) ∧ Keeps w1 ((((((w1.setCell ⟨N, 0, none⟩ a).setCell ⟨N, 1, none⟩ b).setCell ⟨N, 2, none⟩ c).setCell ⟨N + 1, 0, none⟩ a2).setCell ⟨N + 1, 1, none⟩ b2).setCell ⟨N + 1, 2, none⟩ c2) := by
  refine ⟨blk_store3_ne (blk_store3 B0) (by omega), blk_store3 (blk_store3_ne B1 (by omega)), blk_store3_ne (blk_store3_ne B2 (by omega)) (by omega), ?_, ?_⟩
  · repeat refine Below.setCell ?_ (by first | exact hN | exact Nat.le_succ_of_le hN) _
    exact hb
  · repeat refine Keeps.set ?_ (t := 92) (by (repeat refine BoxT.set ?_); first | exact BoxT.of B0 | exact BoxT.of B1) (by decide)
    exact Keeps.refl _

theorem cell_set_ne {w : World} {g g' o o' : Nat} {u : Value} (h : g ≠ g') : (w.setCell ⟨g', o', none⟩ u).cell? ⟨g, o, none⟩ = w.cell? ⟨g, o, none⟩ :=
  World.cell?_of_block (Below.heap_setCell _ _ _ _ (by exact h))

theorem NatV.slice2 {w : World} {v : Value} {n : Nat} (h : NatV w v n) : ∃ ao len cap, v = .slice ao len cap ∧ Hid (len = (digits n).length) := by
  obtain ⟨ao, cap, rfl⟩ := h.slice
  exact ⟨_, _, _, rfl, rfl⟩

theorem NatV.heap {w w' : World} {v : Value} {n : Nat} (h : NatV w v n) (e : w'.heap = w.heap) : NatV w' v n := h.keeps (fun g cur hg => by rw [e]; exact hg)

set_option maxHeartbeats 300000 in
set_option maxRecDepth 100000 in
theorem sum_any (xa xb : Value) (sa sb : Bool) (na nb : Nat) (ea eb : Int) (w : World) (ha : NumV w xa sa na ea) (hb : NumV w xb sb nb eb)
    (hla : (digits na).length ≤ 400000) (hlb : (digits nb).length ≤ 400000) (he1 : -400000 ≤ ea) (he2 : ea ≤ 400000) (he3 : -400000 ≤ eb) (he4 : eb ≤ 400000) :
    Calls Tryz.prog 65 #[xa, xb] w fun ev w' => ∃ x, ev = .returned x ∧ NumV w' x (sumN sa na ea sb nb eb).1 (sumN sa na ea sb nb eb).2.1 (sumN sa na ea sb nb eb).2.2 ∧ Below w.heap.size w w' := by
  obtain ⟨ao, la, ca, rfl, hl1, hNa⟩ := ha
  obtain ⟨bo, lb, cb, rfl, hl2, hNb⟩ := hb
  have HL1 : Hid (la = (digits na).length) := hl1
  have HL2 : Hid (lb = (digits nb).length) := hl2
  clear hl1 hl2
  go_enter Tryz.func65, Tryz.ntmps65
  go_wp2_with fail
  have hW : Below w.heap.size w (((w.alloc (Obj.cells #[Value.bool sa, Value.slice ao la ca, Value.int IntKind.i64 ea] 92)).alloc (Obj.cells #[Value.bool sb, Value.slice bo lb cb, Value.int IntKind.i64 eb] 92)).alloc (Obj.cells #[Value.bool false, Value.slice none 0 0, Value.int IntKind.i64 0] 92)) :=
    (((Below.refl _ _).alloc (Nat.le_refl _) _).alloc (by simp) _).alloc (by simp; omega) _
  refine (level_any _ _ sa sb na nb ea eb _ ⟨_, _, _, rfl, HL1.out, hNa.below hW (Nat.le_refl _)⟩ ⟨_, _, _, rfl, HL2.out, hNb.below hW (Nat.le_refl _)⟩ (by omega) (by omega) he1 he2 he3 he4).mono ?_
  rintro e w1 ⟨ya, yb, rfl, ⟨ao1, la1, ca1, rfl, hm1, hM1⟩, ⟨bo1, lb1, cb1, rfl, hm2, hM2⟩, hb1⟩
  have hbA : Below w.heap.size w w1 := hW.trans (hb1.mono hW.size)
  have B0 := blk_below (blk_old (blk_old (blk_new w _) _) _) hb1
  have B1 := blk_below (blk_old (blk_new (w.alloc _) _) _) hb1
  have B2 := blk_below (blk_new ((w.alloc _).alloc _) _) hb1
  simp only [World.size_alloc] at B1 B2
  obtain ⟨k00, k01, k02, k03, k04, k05⟩ := blk3 B0
  obtain ⟨k10, k11, k12, k13, k14, k15⟩ := blk3 B1
  have HS : Hid (lvA na ea eb = na * 2 ^ (ea - min ea eb).toNat ∧ lvB nb ea eb = nb * 2 ^ (eb - min ea eb).toNat) := ⟨rfl, rfl⟩
  have q1 : (digits (lvA na ea eb)).length ≤ 1000000 := Nat.le_trans len_mul_pow (by omega)
  have q2 : (digits (lvB nb ea eb)).length ≤ 1000000 := Nat.le_trans len_mul_pow (by omega)
  rw [← HS.out.1] at hm1 hM1
  rw [← HS.out.2] at hm2 hM2
  generalize hSN : sumN sa na ea sb nb eb = r
  have HSN : Hid (sumN sa na ea sb nb eb = r) := hSN
  clear hSN
  generalize hm : min ea eb = m at *
  have Hm : Hid (min ea eb = m) := hm
  clear hm
  have HM1 : Hid (la1 = (digits (lvA na ea eb)).length) := hm1
  have HM2 : Hid (lb1 = (digits (lvB nb ea eb)).length) := hm2
  clear hm1 hm2 hb1 hW hNa hNb
  have HB0 : Hid (w1.heap[w.heap.size]? = _) := B0
  have HB1 : Hid (w1.heap[w.heap.size + 1]? = _) := B1
  have HB2 : Hid (w1.heap[w.heap.size + 1 + 1]? = _) := B2
  clear B0 B1 B2
  by_cases hs : sa = sb
  · subst hs
    go_wp2_with fail
    obtain ⟨D0, D1, D2, hbB, hK⟩ := store_two (a := .bool sa) (b := .slice ao1 la1 ca1) (c := .int .i64 m) (a2 := .bool sa) (b2 := .slice bo1 lb1 cb1) (c2 := .int .i64 m) HB0.out HB1.out HB2.out hbA (Nat.le_refl _)
    have hA2 := hM1.keeps hK
    have hB2 := hM2.keeps hK
    clear hM1 hM2 hK hbA HB0 HB1 HB2 k00 k01 k02 k03 k04 k05 k10 k11 k12 k13 k14 k15
    generalize ((((((w1.setCell { block := w.heap.size, off := 0 } (Value.bool sa)).setCell { block := w.heap.size, off := 1 } (Value.slice ao1 la1 ca1)).setCell { block := w.heap.size, off := 2 } (Value.int IntKind.i64 m)).setCell { block := w.heap.size + 1, off := 0 } (Value.bool sa)).setCell { block := w.heap.size + 1, off := 1 } (Value.slice bo1 lb1 cb1)).setCell { block := w.heap.size + 1, off := 2 } (Value.int IntKind.i64 m)) = W2 at *
    have HD0 : Hid (W2.heap[w.heap.size]? = _) := D0
    have HD1 : Hid (W2.heap[w.heap.size + 1]? = _) := D1
    have HD2 : Hid (W2.heap[w.heap.size + 1 + 1]? = _) := D2
    have HA2 : Hid (NatV W2 _ _) := hA2
    have HB2 : Hid (NatV W2 _ _) := hB2
    have Q1 : Hid ((digits (lvA na ea eb)).length ≤ 1000000) := q1
    have Q2 : Hid ((digits (lvB nb ea eb)).length ≤ 1000000) := q2
    have fin : Hid (∀ (w3 : World) (ao3 : Option Addr) (la3 ca3 : Nat), la3 = (digits (lvA na ea eb + lvB nb ea eb)).length → NatV w3 (.slice ao3 la3 ca3) (lvA na ea eb + lvB nb ea eb) → Below W2.drew.heap.size W2.drew w3 → ∃ x, Ending.returned (.agg #[.bool sa, .slice ao3 la3 ca3, .int .i64 m]) = .returned x ∧ NumV (((w3.setCell ⟨w.heap.size + 1 + 1, 0, none⟩ (Value.bool sa)).setCell ⟨w.heap.size + 1 + 1, 1, none⟩ (Value.slice ao3 la3 ca3)).setCell ⟨w.heap.size + 1 + 1, 2, none⟩ (Value.int IntKind.i64 m)) x r.1 r.2.1 r.2.2 ∧ Below w.heap.size w (((w3.setCell ⟨w.heap.size + 1 + 1, 0, none⟩ (Value.bool sa)).setCell ⟨w.heap.size + 1 + 1, 1, none⟩ (Value.slice ao3 la3 ca3)).setCell ⟨w.heap.size + 1 + 1, 2, none⟩ (Value.int IntKind.i64 m))) := by
      intro w3 ao3 la3 ca3 hl hn hb3
      have hbx : BoxT w3 (w.heap.size + 1 + 1) 92 := BoxT.of (blk_below (show (W2.drew).heap[w.heap.size + 1 + 1]? = _ from HD2.out) hb3)
      have hr : r = (sa, lvA na ea eb + lvB nb ea eb, m) := by rw [← HSN.out, ← Hm.out]; unfold sumN; simp
      have hk : Keeps w3 (((w3.setCell ⟨w.heap.size + 1 + 1, 0, none⟩ (Value.bool sa)).setCell ⟨w.heap.size + 1 + 1, 1, none⟩ (Value.slice ao3 la3 ca3)).setCell ⟨w.heap.size + 1 + 1, 2, none⟩ (Value.int IntKind.i64 m)) := by
        repeat refine Keeps.set ?_ (t := 92) (by (repeat refine BoxT.set ?_); exact hbx) (by decide)
        exact Keeps.refl _
      refine ⟨_, rfl, ?_, ?_⟩
      · rw [hr]; exact ⟨_, _, _, rfl, hl, hn.keeps hk⟩
      · repeat refine Below.setCell ?_ (by simp; try omega) _
        exact hbB.trans ((Below.refl _ W2).drew.trans (hb3.mono (by have := hbB.size; show _ ≤ W2.heap.size; omega)) |>.mono (Nat.le_refl _))
    clear D0 D1 D2 hA2 hB2 q1 q2 hbB hla hlb he1 he2 he3 he4
    obtain ⟨k00, k01, k02, -, -, -⟩ := blk3 HD0.out
    obtain ⟨k10, k11, -, -, -, -⟩ := blk3 HD1.out
    clear k10
    go_region_held3 (fun W => W.cell? ⟨w.heap.size, 0, none⟩ = some (.bool sa) ∧ W.cell? ⟨w.heap.size, 1, none⟩ = some (.slice ao1 la1 ca1) ∧ W.cell? ⟨w.heap.size + 1, 1, none⟩ = some (.slice bo1 lb1 cb1) ∧ W.cell? ⟨w.heap.size, 2, none⟩ = some (.int .i64 m)) (first | (go_keep; done) | (refine ⟨?_, ?_, ?_, ?_⟩ <;> first | (go_keep; done) | (rw [cell_set_ne (by omega), cell_set_ne (by omega), cell_set_ne (by omega)]; assumption)))
      (first | (go_at_call 117; refine (plus_any (lvA na ea eb) (lvB nb ea eb) _ _ _ ?_ ?_ Q1.out Q2.out).mono ?_; exact HA2.out.heap rfl; exact HB2.out.heap rfl; rintro e w3 ⟨v3, rfl, hN3, hb3⟩; obtain ⟨ao3, la3, ca3, rfl, HL3⟩ := hN3.slice2; have HN3 : Hid (NatV w3 _ _) := hN3; have HB3 : Hid (Below _ _ w3) := hb3; obtain ⟨j00, j01, j02, j03, j04, j05⟩ := blk3 (blk_below (show (W2.drew).heap[w.heap.size]? = _ from HD0.out) hb3); obtain ⟨j10, j11, j12, j13, j14, j15⟩ := blk3 (blk_below (show (W2.drew).heap[w.heap.size + 1]? = _ from HD1.out) hb3); obtain ⟨j20, j21, j22, j23, j24, j25⟩ := blk3 (blk_below (show (W2.drew).heap[w.heap.size + 1 + 1]? = _ from HD2.out) hb3); clear hN3 hb3 k01 k02 k00 k11 j03 j04 j05 j12 j13 j14 j15))
    go_wp2
    refine bodyPost_ret (v := .agg #[.bool sa, .slice ao3 la3 ca3, .int .i64 m]) (by simp [results, Tryz.results65, go_sem, j20, j21, j22]) rfl ?_
    rw [HSN.out]; exact fin.out w3 ao3 la3 ca3 HL3.out HN3.out HB3.out
  · obtain rfl : sb = (!sa) := by cases sa <;> cases sb <;> simp at hs ⊢
    clear hs
    have hbb : (sa == !sa) = false := by cases sa <;> rfl
    go_wp2_with fail
    clear hbb
    obtain ⟨D0, D1, D2, hbB, hK⟩ := store_two (a := .bool sa) (b := .slice ao1 la1 ca1) (c := .int .i64 m) (a2 := .bool (!sa)) (b2 := .slice bo1 lb1 cb1) (c2 := .int .i64 m) HB0.out HB1.out HB2.out hbA (Nat.le_refl _)
    have hA2 := hM1.keeps hK
    have hB2 := hM2.keeps hK
    clear hM1 hM2 hK hbA HB0 HB1 HB2 k00 k01 k02 k03 k04 k05 k10 k11 k12 k13 k14 k15
    generalize ((((((w1.setCell { block := w.heap.size, off := 0 } (Value.bool sa)).setCell { block := w.heap.size, off := 1 } (Value.slice ao1 la1 ca1)).setCell { block := w.heap.size, off := 2 } (Value.int IntKind.i64 m)).setCell { block := w.heap.size + 1, off := 0 } (Value.bool (!sa))).setCell { block := w.heap.size + 1, off := 1 } (Value.slice bo1 lb1 cb1)).setCell { block := w.heap.size + 1, off := 2 } (Value.int IntKind.i64 m)) = W2 at *
    refine (cmp_any (lvA na ea eb) (lvB nb ea eb) _ _ _ hA2 hB2 q1 q2).mono ?_
    rintro e w4 ⟨rfl, hb4⟩
    have hA2 := hA2.below hb4 (Nat.le_refl _)
    have hB2 := hB2.below hb4 (Nat.le_refl _)
    have D0 := blk_below D0 hb4
    have D1 := blk_below D1 hb4
    have D2 := blk_below D2 hb4
    have hbB := hbB.trans (hb4.mono hbB.size)
    clear hb4
    obtain ⟨W2, rfl⟩ : ∃ W2 : World, W2 = w4 := ⟨_, rfl⟩
    rcases Nat.lt_trichotomy (lvA na ea eb) (lvB nb ea eb) with hgt | hgt | hgt
    · have hgt : Hid (lvA na ea eb < lvB nb ea eb) := hgt
      rw [show cmpI (lvA na ea eb) (lvB nb ea eb) = -1 by unfold cmpI; rw [if_pos hgt.out]]
      go_wp2_with fail
      have HD0 : Hid (W2.heap[w.heap.size]? = _) := D0
      have HD1 : Hid (W2.heap[w.heap.size + 1]? = _) := D1
      have HD2 : Hid (W2.heap[w.heap.size + 1 + 1]? = _) := D2
      have HA2 : Hid (NatV W2 _ _) := hA2
      have HB2 : Hid (NatV W2 _ _) := hB2
      have Q1 : Hid ((digits (lvA na ea eb)).length ≤ 1000000) := q1
      have Q2 : Hid ((digits (lvB nb ea eb)).length ≤ 1000000) := q2
      have fin : Hid (∀ (w3 : World) (ao3 : Option Addr) (la3 ca3 : Nat), la3 = (digits (lvB nb ea eb - lvA na ea eb)).length → NatV w3 (.slice ao3 la3 ca3) (lvB nb ea eb - lvA na ea eb) → Below W2.drew.heap.size W2.drew w3 → ∃ x, Ending.returned (.agg #[.bool (!sa), .slice ao3 la3 ca3, .int .i64 m]) = .returned x ∧ NumV (((w3.setCell ⟨w.heap.size + 1 + 1, 0, none⟩ (Value.bool (!sa))).setCell ⟨w.heap.size + 1 + 1, 1, none⟩ (Value.slice ao3 la3 ca3)).setCell ⟨w.heap.size + 1 + 1, 2, none⟩ (Value.int IntKind.i64 m)) x r.1 r.2.1 r.2.2 ∧ Below w.heap.size w (((w3.setCell ⟨w.heap.size + 1 + 1, 0, none⟩ (Value.bool (!sa))).setCell ⟨w.heap.size + 1 + 1, 1, none⟩ (Value.slice ao3 la3 ca3)).setCell ⟨w.heap.size + 1 + 1, 2, none⟩ (Value.int IntKind.i64 m))) := by
        intro w3 ao3 la3 ca3 hl hn hb3
        have hbx : BoxT w3 (w.heap.size + 1 + 1) 92 := BoxT.of (blk_below (show (W2.drew).heap[w.heap.size + 1 + 1]? = _ from HD2.out) hb3)
        have hr : r = ((!sa), lvB nb ea eb - lvA na ea eb, m) := by rw [← HSN.out, ← Hm.out]; unfold sumN; rw [if_neg (by simp), if_neg (by have := hgt.out; omega), if_neg (by have := hgt.out; omega)]
        have hk : Keeps w3 (((w3.setCell ⟨w.heap.size + 1 + 1, 0, none⟩ (Value.bool (!sa))).setCell ⟨w.heap.size + 1 + 1, 1, none⟩ (Value.slice ao3 la3 ca3)).setCell ⟨w.heap.size + 1 + 1, 2, none⟩ (Value.int IntKind.i64 m)) := by
          repeat refine Keeps.set ?_ (t := 92) (by (repeat refine BoxT.set ?_); exact hbx) (by decide)
          exact Keeps.refl _
        refine ⟨_, rfl, ?_, ?_⟩
        · rw [hr]; exact ⟨_, _, _, rfl, hl, hn.keeps hk⟩
        · repeat refine Below.setCell ?_ (by simp; try omega) _
          exact hbB.trans ((Below.refl _ W2).drew.trans (hb3.mono (by have := hbB.size; show _ ≤ W2.heap.size; omega)) |>.mono (Nat.le_refl _))
      clear D0 D1 D2 hA2 hB2 q1 q2 hbB hla hlb he1 he2 he3 he4
      obtain ⟨k00, k01, k02, -, -, -⟩ := blk3 HD0.out
      obtain ⟨k10, k11, -, -, -, -⟩ := blk3 HD1.out
      clear k00
      go_region_held3 (fun W => W.cell? ⟨w.heap.size + 1, 0, none⟩ = some (.bool (!sa)) ∧ W.cell? ⟨w.heap.size, 1, none⟩ = some (.slice ao1 la1 ca1) ∧ W.cell? ⟨w.heap.size + 1, 1, none⟩ = some (.slice bo1 lb1 cb1) ∧ W.cell? ⟨w.heap.size, 2, none⟩ = some (.int .i64 m)) (first | (go_keep; done) | (refine ⟨?_, ?_, ?_, ?_⟩ <;> first | (go_keep; done) | (rw [cell_set_ne (by omega), cell_set_ne (by omega), cell_set_ne (by omega)]; assumption)))
        (first | (go_at_call 119; refine (minus_any (lvB nb ea eb) (lvA na ea eb) _ _ _ ?_ ?_ (by have := hgt.out; omega) Q2.out).mono ?_; exact HB2.out.heap rfl; exact HA2.out.heap rfl; rintro e w3 ⟨v3, rfl, hN3, hb3⟩; obtain ⟨ao3, la3, ca3, rfl, HL3⟩ := hN3.slice2; have HN3 : Hid (NatV w3 _ _) := hN3; have HB3 : Hid (Below _ _ w3) := hb3; obtain ⟨j00, j01, j02, j03, j04, j05⟩ := blk3 (blk_below (show (W2.drew).heap[w.heap.size]? = _ from HD0.out) hb3); obtain ⟨j10, j11, j12, j13, j14, j15⟩ := blk3 (blk_below (show (W2.drew).heap[w.heap.size + 1]? = _ from HD1.out) hb3); obtain ⟨j20, j21, j22, j23, j24, j25⟩ := blk3 (blk_below (show (W2.drew).heap[w.heap.size + 1 + 1]? = _ from HD2.out) hb3); clear hN3 hb3 k01 k02 k10 k11 j03 j04 j05 j12 j13 j14 j15))
      go_wp2
      refine bodyPost_ret (v := .agg #[.bool (!sa), .slice ao3 la3 ca3, .int .i64 m]) (by simp [results, Tryz.results65, go_sem, j20, j21, j22]) rfl ?_
      rw [HSN.out]; exact fin.out w3 ao3 la3 ca3 HL3.out HN3.out HB3.out
    · rw [show cmpI (lvA na ea eb) (lvB nb ea eb) = 0 by unfold cmpI; rw [if_neg (by omega), if_pos hgt]]
      have hgt : Hid (lvA na ea eb = lvB nb ea eb) := hgt
      have hr : r = (false, 0, 0) := by rw [← HSN.out]; unfold sumN; rw [if_neg (by simp), if_pos hgt.out]
      obtain ⟨k20, k21, k22, k23, k24, k25⟩ := blk3 D2
      have fin : Hid (∀ W : World, Below w.heap.size w W → ∃ x, Ending.returned (.agg #[.bool false, .slice none 0 0, .int .i64 0]) = .returned x ∧ NumV W x r.1 r.2.1 r.2.2 ∧ Below w.heap.size w W) := by
        intro W hW
        refine ⟨_, rfl, ?_, hW⟩
        rw [hr]; exact ⟨_, _, _, rfl, rfl, NatV.zero W⟩
      clear hr D0 D1 D2 hA2 hB2 q1 q2 hla hlb he1 he2 he3 he4
      go_wp2
      refine bodyPost_ret (v := .agg #[.bool false, .slice none 0 0, .int .i64 0]) (by simp [results, Tryz.results65, go_sem, k20, k21, k22]) rfl ?_
      rw [HSN.out]; refine fin.out _ ?_
      repeat refine Below.setCell ?_ (by simp; try omega) _
      exact hbB
    · rw [show cmpI (lvA na ea eb) (lvB nb ea eb) = 1 by unfold cmpI; rw [if_neg (by omega), if_neg (by omega)]]
      have hgt : Hid (lvB nb ea eb < lvA na ea eb) := hgt
      go_wp2_with fail
      have HD0 : Hid (W2.heap[w.heap.size]? = _) := D0
      have HD1 : Hid (W2.heap[w.heap.size + 1]? = _) := D1
      have HD2 : Hid (W2.heap[w.heap.size + 1 + 1]? = _) := D2
      have HA2 : Hid (NatV W2 _ _) := hA2
      have HB2 : Hid (NatV W2 _ _) := hB2
      have Q1 : Hid ((digits (lvA na ea eb)).length ≤ 1000000) := q1
      have Q2 : Hid ((digits (lvB nb ea eb)).length ≤ 1000000) := q2
      have fin : Hid (∀ (w3 : World) (ao3 : Option Addr) (la3 ca3 : Nat), la3 = (digits (lvA na ea eb - lvB nb ea eb)).length → NatV w3 (.slice ao3 la3 ca3) (lvA na ea eb - lvB nb ea eb) → Below W2.drew.heap.size W2.drew w3 → ∃ x, Ending.returned (.agg #[.bool sa, .slice ao3 la3 ca3, .int .i64 m]) = .returned x ∧ NumV (((w3.setCell ⟨w.heap.size + 1 + 1, 0, none⟩ (Value.bool sa)).setCell ⟨w.heap.size + 1 + 1, 1, none⟩ (Value.slice ao3 la3 ca3)).setCell ⟨w.heap.size + 1 + 1, 2, none⟩ (Value.int IntKind.i64 m)) x r.1 r.2.1 r.2.2 ∧ Below w.heap.size w (((w3.setCell ⟨w.heap.size + 1 + 1, 0, none⟩ (Value.bool sa)).setCell ⟨w.heap.size + 1 + 1, 1, none⟩ (Value.slice ao3 la3 ca3)).setCell ⟨w.heap.size + 1 + 1, 2, none⟩ (Value.int IntKind.i64 m))) := by
        intro w3 ao3 la3 ca3 hl hn hb3
        have hbx : BoxT w3 (w.heap.size + 1 + 1) 92 := BoxT.of (blk_below (show (W2.drew).heap[w.heap.size + 1 + 1]? = _ from HD2.out) hb3)
        have hr : r = (sa, lvA na ea eb - lvB nb ea eb, m) := by rw [← HSN.out, ← Hm.out]; unfold sumN; rw [if_neg (by simp), if_neg (by have := hgt.out; omega), if_pos hgt.out]
        have hk : Keeps w3 (((w3.setCell ⟨w.heap.size + 1 + 1, 0, none⟩ (Value.bool sa)).setCell ⟨w.heap.size + 1 + 1, 1, none⟩ (Value.slice ao3 la3 ca3)).setCell ⟨w.heap.size + 1 + 1, 2, none⟩ (Value.int IntKind.i64 m)) := by
          repeat refine Keeps.set ?_ (t := 92) (by (repeat refine BoxT.set ?_); exact hbx) (by decide)
          exact Keeps.refl _
        refine ⟨_, rfl, ?_, ?_⟩
        · rw [hr]; exact ⟨_, _, _, rfl, hl, hn.keeps hk⟩
        · repeat refine Below.setCell ?_ (by simp; try omega) _
          exact hbB.trans ((Below.refl _ W2).drew.trans (hb3.mono (by have := hbB.size; show _ ≤ W2.heap.size; omega)) |>.mono (Nat.le_refl _))
      clear D0 D1 D2 hA2 hB2 q1 q2 hbB hla hlb he1 he2 he3 he4
      obtain ⟨k00, k01, k02, -, -, -⟩ := blk3 HD0.out
      obtain ⟨k10, k11, -, -, -, -⟩ := blk3 HD1.out
      clear k10
      go_region_held3 (fun W => W.cell? ⟨w.heap.size, 0, none⟩ = some (.bool sa) ∧ W.cell? ⟨w.heap.size, 1, none⟩ = some (.slice ao1 la1 ca1) ∧ W.cell? ⟨w.heap.size + 1, 1, none⟩ = some (.slice bo1 lb1 cb1) ∧ W.cell? ⟨w.heap.size, 2, none⟩ = some (.int .i64 m)) (first | (go_keep; done) | (refine ⟨?_, ?_, ?_, ?_⟩ <;> first | (go_keep; done) | (rw [cell_set_ne (by omega), cell_set_ne (by omega), cell_set_ne (by omega)]; assumption)))
        (first | (go_at_call 119; refine (minus_any (lvA na ea eb) (lvB nb ea eb) _ _ _ ?_ ?_ (by have := hgt.out; omega) Q1.out).mono ?_; exact HA2.out.heap rfl; exact HB2.out.heap rfl; rintro e w3 ⟨v3, rfl, hN3, hb3⟩; obtain ⟨ao3, la3, ca3, rfl, HL3⟩ := hN3.slice2; have HN3 : Hid (NatV w3 _ _) := hN3; have HB3 : Hid (Below _ _ w3) := hb3; obtain ⟨j00, j01, j02, j03, j04, j05⟩ := blk3 (blk_below (show (W2.drew).heap[w.heap.size]? = _ from HD0.out) hb3); obtain ⟨j10, j11, j12, j13, j14, j15⟩ := blk3 (blk_below (show (W2.drew).heap[w.heap.size + 1]? = _ from HD1.out) hb3); obtain ⟨j20, j21, j22, j23, j24, j25⟩ := blk3 (blk_below (show (W2.drew).heap[w.heap.size + 1 + 1]? = _ from HD2.out) hb3); clear hN3 hb3 k01 k02 k00 k11 j03 j04 j05 j12 j13 j14 j15))
      go_wp2
      refine bodyPost_ret (v := .agg #[.bool sa, .slice ao3 la3 ca3, .int .i64 m]) (by simp [results, Tryz.results65, go_sem, j20, j21, j22]) rfl ?_
      rw [HSN.out]; exact fin.out w3 ao3 la3 ca3 HL3.out HN3.out HB3.out
end Go.Proofs.YtonhpkigoplmaaaGreatDoor
