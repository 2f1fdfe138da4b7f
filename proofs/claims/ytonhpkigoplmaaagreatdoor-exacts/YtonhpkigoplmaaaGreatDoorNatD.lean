/-
  encloseref.minus.
-/
import Derived.Test.YtonhpkigoplmaaaGreatDoorNatC
namespace Go.Proofs.YtonhpkigoplmaaaGreatDoor
open Go.RowKit

/-- What holds of the loop's variables. -/
structure MinusR (x y : List Nat) (i t : Nat) (l : List Nat) : Prop where
  len : l.length = i
  le : i ≤ x.length
  one : t ≤ 1
  dig : ∀ d ∈ l, d < 16777216
  val : nval l + nval (y.take i) = nval (x.take i) + 16777216 ^ i * t

theorem MinusR.step {x y l : List Nat} {i t t' p q d : Nat} (h : MinusR x y i t l) (hi : i < x.length) (_hx : ∀ d ∈ x, d < 16777216) (_hy : ∀ d ∈ y, d < 16777216) (hp : x.getD i 0 = p) (hq : y.getD i 0 = q) (he : d + q + t = p + 16777216 * t') (ht : t' ≤ 1) (hd : d < 16777216) :
    MinusR x y (i + 1) t' (l ++ [d]) := by
  refine ⟨by simp [h.len], by omega, ht, ?_, ?_⟩
  · intro d' hd'
    rcases List.mem_append.1 hd' with hd' | hd'
    · exact h.dig d' hd'
    · simp at hd'; omega
  · rw [nval_snoc, h.len, nval_take_succ, nval_take_succ, hp, hq, Nat.pow_succ]
    have hv := h.val
    generalize 16777216 ^ i = P at *
    have e1 : P * (d + q + t) = P * (p + 16777216 * t') := by rw [he]
    rw [Nat.mul_add, Nat.mul_add, Nat.mul_add, ← Nat.mul_assoc] at e1
    omega

theorem MinusR.done {x y l : List Nat} {t : Nat} (h : MinusR x y x.length t l) (hy : y.length ≤ x.length) (hle : nval y ≤ nval x) : nval l = nval x - nval y := by
  have hv := h.val
  rw [List.take_of_length_le hy, List.take_of_length_le (Nat.le_refl _)] at hv
  have h1 := nval_lt l h.dig
  rw [h.len] at h1
  have ht : t = 0 := by
    have := h.one
    rcases Nat.eq_zero_or_pos t with h0 | h0
    · exact h0
    · have : t = 1 := by omega
      subst this
      omega
  subst ht
  omega

set_option maxHeartbeats 4000000 in
set_option maxRecDepth 100000 in
theorem minus_dig (x y : List Nat) (va vb : Value) (w : World) (hx : Dig w va x) (hy : Dig w vb y) (hle : nval y ≤ nval x) (hl : y.length ≤ x.length) (hlx : x.length ≤ 1000000) :
    Calls Tryz.prog 119 #[va, vb] w fun e w' => ∃ v, e = .returned v ∧ NatV w' v (nval x - nval y) ∧ Below w.heap.size w w' := by
  obtain ⟨i0, hi, hz0, hz1, hz2⟩ := info_parts infoInt
  have HDX : Hid (∀ d ∈ x, d < 16777216) := hx.1
  have HDY : Hid (∀ d ∈ y, d < 16777216) := hy.1
  have HLE : Hid (nval y ≤ nval x) := hle
  obtain ⟨ao, ca, rfl, hca, ha⟩ := hx.open
  obtain ⟨bo, cb, rfl, hcb, hb⟩ := hy.open
  have HA : Hid (x.length = 0 ∨ ∃ b off, ao = some ⟨b, off, none⟩ ∧ b < w.heap.size ∧ ∀ i, i < x.length → w.cell? ⟨b, off + i, none⟩ = some (.int .i64 (x.getD i 0 : Nat))) := ha
  have HB : Hid (y.length = 0 ∨ ∃ b off, bo = some ⟨b, off, none⟩ ∧ b < w.heap.size ∧ ∀ i, i < y.length → w.cell? ⟨b, off + i, none⟩ = some (.int .i64 (y.getD i 0 : Nat))) := hb
  clear hx hy hle ha hb
  go_enter Tryz.func119, Tryz.ntmps119
  go_wp2
  go_loopw [5, 6, 7] (fun v5 v6 v7 wr => ∃ (i t : Nat) (l : List Nat), v7 = .int .i64 (i : Int) ∧ v6 = .int .i64 (t : Int) ∧ wr.ownsRow w.heap.size 3 1 v5 l.length (l.map dv) ∧ MinusR x y i t l ∧ Below w.heap.size w wr) (fun _ _ v7 _ => x.length - (intOf v7).toNat)
  case atStart => exact ⟨0, 0, [], rfl, rfl, World.ownsRow_nil _ _ _ _, ⟨rfl, Nat.zero_le _, Nat.zero_le _, by simp, by simp [nval]⟩, Below.refl _ _⟩
  case round =>
    obtain ⟨i, t, l, rfl, rfl, hown, hR, hbr⟩ := hrel
    have ht1 := hR.one
    have hle := hR.le
    have hll := hR.len
    have hlen : l.length ≤ 1000000 := by omega
    have HR : Hid (MinusR x y i t l) := hR
    generalize hp : x.getD i 0 = p
    generalize hq : y.getD i 0 = q
    have hpl : p < 16777216 := by rw [← hp]; exact getD_lt HDX.out i
    have hql : q < 16777216 := by rw [← hq]; exact getD_lt HDY.out i
    have HP : Hid (x.getD i 0 = p) := hp
    have HQ : Hid (y.getD i 0 = q) := hq
    clear hR hll hp hq
    rcases (show (i < x.length ∧ i < y.length ∧ q + t ≤ p) ∨ (i < x.length ∧ i < y.length ∧ p < q + t) ∨ (i < x.length ∧ ¬ i < y.length ∧ t ≤ p) ∨ (i < x.length ∧ ¬ i < y.length ∧ p < t) ∨ ¬ i < x.length by omega) with ⟨g1, g2, g3⟩ | ⟨g1, g2, g3⟩ | ⟨g1, g2, g3⟩ | ⟨g1, g2, g3⟩ | g1
    · have cxa : ∃ b1 o1, ao = some ⟨b1, o1, none⟩ ∧ wr.cell? ⟨b1, o1 + i, none⟩ = some (.int .i64 (p : Int)) := by
        obtain ⟨b1, o1, h1, h2, h3⟩ := HA.out.resolve_left (by omega)
        exact ⟨b1, o1, h1, by rw [hbr.cell (p := ⟨b1, o1 + i, none⟩) h2, h3 i g1, HP.out]⟩
      obtain ⟨b1, o1, rfl, c1⟩ := cxa
      have cyb : ∃ b2 o2, bo = some ⟨b2, o2, none⟩ ∧ wr.cell? ⟨b2, o2 + i, none⟩ = some (.int .i64 (q : Int)) := by
        obtain ⟨b2, o2, h1, h2, h3⟩ := HB.out.resolve_left (by omega)
        exact ⟨b2, o2, h1, by rw [hbr.cell (p := ⟨b2, o2 + i, none⟩) h2, h3 i g2, HQ.out]⟩
      obtain ⟨b2, o2, rfl, c2⟩ := cyb
      go_wp2_with (first
        | (at_builtin; refine wpList_append_own _ rfl _ _ 40 rfl w.heap.size 3 i0 (.int .i64 0) 1 8 Tryz.underlying40 hi hz0 hz1 hz2 rfl (by decide) _ _ _ rfl (hown.alloc _) ⟨wr.heap.size, 0, none⟩ 1 1 [.int .i64 ((p : Int) - t - q)] rfl rfl ?a1 ?a2 ?a3 ?a4 ?a5 ?_)
        | go_in)
      case a1 =>
        intro j u hj
        match j, hj with
        | 0, hj => simp at hj; subst hj; simp [Addr.add]
      case a2 => intro u hu; simp at hu; subst hu; rfl
      case a3 => unfold maxLen; omega
      case a4 => omega
      case a5 => have := hbr.size; simp; omega
      · intro v' w1 hown' hgrow _
        have R := push_step hown hbr (Nat.le_refl _) hown' (d := p - t - q) (by omega) hgrow
        clear hown' hgrow hown hbr
        go_wp2
        go_roundw
        case rel => exact ⟨i + 1, 0, l ++ [p - t - q], by go_num, by go_num, R.1, HR.out.step g1 HDX.out HDY.out HP.out HQ.out (by omega) (by omega) (by omega), R.2⟩
        case measure => simp [intOf]; omega
    · have cxa : ∃ b1 o1, ao = some ⟨b1, o1, none⟩ ∧ wr.cell? ⟨b1, o1 + i, none⟩ = some (.int .i64 (p : Int)) := by
        obtain ⟨b1, o1, h1, h2, h3⟩ := HA.out.resolve_left (by omega)
        exact ⟨b1, o1, h1, by rw [hbr.cell (p := ⟨b1, o1 + i, none⟩) h2, h3 i g1, HP.out]⟩
      obtain ⟨b1, o1, rfl, c1⟩ := cxa
      have cyb : ∃ b2 o2, bo = some ⟨b2, o2, none⟩ ∧ wr.cell? ⟨b2, o2 + i, none⟩ = some (.int .i64 (q : Int)) := by
        obtain ⟨b2, o2, h1, h2, h3⟩ := HB.out.resolve_left (by omega)
        exact ⟨b2, o2, h1, by rw [hbr.cell (p := ⟨b2, o2 + i, none⟩) h2, h3 i g2, HQ.out]⟩
      obtain ⟨b2, o2, rfl, c2⟩ := cyb
      go_wp2_with (first
        | (at_builtin; refine wpList_append_own _ rfl _ _ 40 rfl w.heap.size 3 i0 (.int .i64 0) 1 8 Tryz.underlying40 hi hz0 hz1 hz2 rfl (by decide) _ _ _ rfl (hown.alloc _) ⟨wr.heap.size, 0, none⟩ 1 1 [.int .i64 ((p : Int) - t - q + 16777216)] rfl rfl ?b1 ?b2 ?b3 ?b4 ?b5 ?_)
        | go_in)
      case b1 =>
        intro j u hj
        match j, hj with
        | 0, hj => simp at hj; subst hj; simp [Addr.add]
      case b2 => intro u hu; simp at hu; subst hu; rfl
      case b3 => unfold maxLen; omega
      case b4 => omega
      case b5 => have := hbr.size; simp; omega
      · intro v' w1 hown' hgrow _
        have R := push_step hown hbr (Nat.le_refl _) hown' (d := p + 16777216 - t - q) (by omega) hgrow
        clear hown' hgrow hown hbr
        go_wp2
        go_roundw
        case rel => exact ⟨i + 1, 1, l ++ [p + 16777216 - t - q], by go_num, by go_num, R.1, HR.out.step g1 HDX.out HDY.out HP.out HQ.out (by omega) (by omega) (by omega), R.2⟩
        case measure => simp [intOf]; omega
    · have cxa : ∃ b1 o1, ao = some ⟨b1, o1, none⟩ ∧ wr.cell? ⟨b1, o1 + i, none⟩ = some (.int .i64 (p : Int)) := by
        obtain ⟨b1, o1, h1, h2, h3⟩ := HA.out.resolve_left (by omega)
        exact ⟨b1, o1, h1, by rw [hbr.cell (p := ⟨b1, o1 + i, none⟩) h2, h3 i g1, HP.out]⟩
      obtain ⟨b1, o1, rfl, c1⟩ := cxa
      have hq0 : q = 0 := by rw [← HQ.out]; simp [List.getD, List.getElem?_eq_none (Nat.le_of_not_lt g2)]
      have HQ0 : Hid (q = 0) := hq0
      clear hq0
      go_wp2_with (first
        | (at_builtin; refine wpList_append_own _ rfl _ _ 40 rfl w.heap.size 3 i0 (.int .i64 0) 1 8 Tryz.underlying40 hi hz0 hz1 hz2 rfl (by decide) _ _ _ rfl (hown.alloc _) ⟨wr.heap.size, 0, none⟩ 1 1 [.int .i64 ((p : Int) - t)] rfl rfl ?c1 ?c2 ?c3 ?c4 ?c5 ?_)
        | go_in)
      case c1 =>
        intro j u hj
        match j, hj with
        | 0, hj => simp at hj; subst hj; simp [Addr.add]
      case c2 => intro u hu; simp at hu; subst hu; rfl
      case c3 => unfold maxLen; omega
      case c4 => omega
      case c5 => have := hbr.size; simp; omega
      · intro v' w1 hown' hgrow _
        have R := push_step hown hbr (Nat.le_refl _) hown' (d := p - t) (by have := HQ0.out; omega) hgrow
        clear hown' hgrow hown hbr
        go_wp2
        go_roundw
        case rel => exact ⟨i + 1, 0, l ++ [p - t], by go_num, by go_num, R.1, HR.out.step g1 HDX.out HDY.out HP.out HQ.out (by have := HQ0.out; omega) (by omega) (by have := HQ0.out; omega), R.2⟩
        case measure => simp [intOf]; omega
    · have cxa : ∃ b1 o1, ao = some ⟨b1, o1, none⟩ ∧ wr.cell? ⟨b1, o1 + i, none⟩ = some (.int .i64 (p : Int)) := by
        obtain ⟨b1, o1, h1, h2, h3⟩ := HA.out.resolve_left (by omega)
        exact ⟨b1, o1, h1, by rw [hbr.cell (p := ⟨b1, o1 + i, none⟩) h2, h3 i g1, HP.out]⟩
      obtain ⟨b1, o1, rfl, c1⟩ := cxa
      have hq0 : q = 0 := by rw [← HQ.out]; simp [List.getD, List.getElem?_eq_none (Nat.le_of_not_lt g2)]
      have HQ0 : Hid (q = 0) := hq0
      clear hq0
      go_wp2_with (first
        | (at_builtin; refine wpList_append_own _ rfl _ _ 40 rfl w.heap.size 3 i0 (.int .i64 0) 1 8 Tryz.underlying40 hi hz0 hz1 hz2 rfl (by decide) _ _ _ rfl (hown.alloc _) ⟨wr.heap.size, 0, none⟩ 1 1 [.int .i64 ((p : Int) - t + 16777216)] rfl rfl ?d1 ?d2 ?d3 ?d4 ?d5 ?_)
        | go_in)
      case d1 =>
        intro j u hj
        match j, hj with
        | 0, hj => simp at hj; subst hj; simp [Addr.add]
      case d2 => intro u hu; simp at hu; subst hu; rfl
      case d3 => unfold maxLen; omega
      case d4 => omega
      case d5 => have := hbr.size; simp; omega
      · intro v' w1 hown' hgrow _
        have R := push_step hown hbr (Nat.le_refl _) hown' (d := p + 16777216 - t) (by have := HQ0.out; omega) hgrow
        clear hown' hgrow hown hbr
        go_wp2
        go_roundw
        case rel => exact ⟨i + 1, 1, l ++ [p + 16777216 - t], by go_num, by go_num, R.1, HR.out.step g1 HDX.out HDY.out HP.out HQ.out (by have := HQ0.out; omega) (by omega) (by have := HQ0.out; omega), R.2⟩
        case measure => simp [intOf]; omega
    · have hie : i = x.length := by omega
      subst hie
      have hD := Dig.of_owns hown HR.out.dig
      go_wp2_with fail
      refine (trim_any l _ _ hD (by omega)).mono ?_
      rintro e w' ⟨v', rfl, hN, rfl⟩
      rw [HR.out.done hl HLE.out] at hN
      go_wp2_with fail
      go_ret
      exact ⟨_, rfl, hN, hbr⟩

theorem len_le_of_le {a b : Nat} (h : b ≤ a) : (digits b).length ≤ (digits a).length := by
  rcases Nat.lt_or_ge (digits a).length (digits b).length with h' | h'
  · have := lt_of_len h'; omega
  · exact h'

theorem minus_any (a b : Nat) (va vb : Value) (w : World) (ha : NatV w va a) (hb : NatV w vb b) (hle : b ≤ a) (hla : (digits a).length ≤ 1000000) :
    Calls Tryz.prog 119 #[va, vb] w fun e w' => ∃ v, e = .returned v ∧ NatV w' v (a - b) ∧ Below w.heap.size w w' := by
  have := minus_dig _ _ va vb w ha hb (by rw [nval_digits, nval_digits]; exact hle) (len_le_of_le hle) hla
  rwa [nval_digits, nval_digits] at this
end Go.Proofs.YtonhpkigoplmaaaGreatDoor
