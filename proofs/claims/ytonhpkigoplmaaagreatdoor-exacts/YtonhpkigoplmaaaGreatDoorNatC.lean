/-
  encloseref.plus.
-/
import Derived.Test.YtonhpkigoplmaaaGreatDoorNatB
namespace Go.Proofs.YtonhpkigoplmaaaGreatDoor
open Go.RowKit

theorem nval_take_succ (x : List Nat) (i : Nat) : nval (x.take (i + 1)) = nval (x.take i) + 16777216 ^ i * x.getD i 0 := by
  by_cases h : i < x.length
  · rw [take_snoc_getD x i h, nval_snoc]
    have : (x.take i).length = i := by simp; omega
    rw [this]
  · rw [List.take_of_length_le (by omega), List.take_of_length_le (by omega)]
    simp [List.getD, List.getElem?_eq_none (Nat.le_of_not_lt h)]

theorem getD_lt {x : List Nat} (h : ∀ d ∈ x, d < 16777216) (i : Nat) : x.getD i 0 < 16777216 := by
  by_cases hi : i < x.length
  · simp only [List.getD, List.getElem?_eq_getElem hi, Option.getD_some]; exact h _ (List.getElem_mem hi)
  · simp [List.getD, List.getElem?_eq_none (Nat.le_of_not_lt hi)]

theorem canon_last {x : List Nat} {i : Nat} (h : Canon x) (hl : x.length = i + 1) : x.getD i 0 ≠ 0 := by
  unfold Canon at h
  intro e
  apply h
  rw [List.getLast?_eq_getElem?, hl]
  simp only [List.getD, Nat.add_sub_cancel] at e ⊢
  rw [List.getElem?_eq_getElem (by omega)] at e ⊢
  simpa using e

/-- What holds of the loop's variables. -/
structure PlusR (x y : List Nat) (i c : Nat) (l : List Nat) : Prop where
  len : l.length = i
  le : i + c ≤ max x.length y.length + 1
  one : c ≤ 1
  dig : ∀ d ∈ l, d < 16777216
  val : nval l + 16777216 ^ i * c = nval (x.take i) + nval (y.take i)
  canon : c = 0 → x.length ≤ i → y.length ≤ i → Canon l

theorem PlusR.step {x y l : List Nat} {i c p q : Nat} (h : PlusR x y i c l) (hx : ∀ d ∈ x, d < 16777216) (hy : ∀ d ∈ y, d < 16777216) (cx : Canon x) (cy : Canon y) (hp : x.getD i 0 = p) (hq : y.getD i 0 = q) (hgo : i < x.length ∨ i < y.length ∨ 0 < c) :
    PlusR x y (i + 1) ((c + p + q) / 16777216) (l ++ [(c + p + q) % 16777216]) := by
  have h1 := getD_lt hx i
  have h2 := getD_lt hy i
  have h3 := h.one
  rw [hp] at h1
  rw [hq] at h2
  refine ⟨by simp [h.len], ?_, by omega, ?_, ?_, ?_⟩
  · have := h.le
    by_cases e : i < x.length ∨ i < y.length
    · omega
    · have ep : p = 0 := by rw [← hp]; simp [List.getD, List.getElem?_eq_none (Nat.le_of_not_lt (fun h => e (Or.inl h)))]
      have eq : q = 0 := by rw [← hq]; simp [List.getD, List.getElem?_eq_none (Nat.le_of_not_lt (fun h => e (Or.inr h)))]
      omega
  · intro d hd
    rcases List.mem_append.1 hd with hd | hd
    · exact h.dig d hd
    · simp at hd; omega
  · have e := nval_snoc_div l (c + p + q)
    have el : (l ++ [(c + p + q) % 16777216]).length = i + 1 := by simp [h.len]
    rw [el, h.len] at e
    rw [e, nval_take_succ, nval_take_succ, hp, hq, Nat.mul_add, Nat.mul_add]
    have := h.val
    omega
  · intro hc hxl hyl
    apply canon_snoc
    have hn : (c + p + q) % 16777216 = c + p + q := by omega
    rw [hn]
    rcases hgo with hgo | hgo | hgo
    · have := canon_last cx (i := i) (by omega); omega
    · have := canon_last cy (i := i) (by omega); omega
    · omega

theorem PlusR.done {x y l : List Nat} {i : Nat} (h : PlusR x y i 0 l) (hx : x.length ≤ i) (hy : y.length ≤ i) : digits (nval x + nval y) = l := by
  have := h.val
  rw [List.take_of_length_le hx, List.take_of_length_le hy] at this
  have e : nval x + nval y = nval l := by omega
  rw [e]
  exact digits_of l h.dig (h.canon rfl hx hy)

set_option maxHeartbeats 4000000 in
theorem plus_dig (x y : List Nat) (va vb : Value) (w : World) (hx : Dig w va x) (hy : Dig w vb y) (cx : Canon x) (cy : Canon y) (hlx : x.length ≤ 1000000) (hly : y.length ≤ 1000000) :
    Calls Tryz.prog 117 #[va, vb] w fun e w' => ∃ v, e = .returned v ∧ NatV w' v (nval x + nval y) ∧ Below w.heap.size w w' := by
  obtain ⟨i0, hi, hz0, hz1, hz2⟩ := info_parts infoInt
  have HDX : Hid (∀ d ∈ x, d < 16777216) := hx.1
  have HDY : Hid (∀ d ∈ y, d < 16777216) := hy.1
  have HCX : Hid (Canon x) := cx
  have HCY : Hid (Canon y) := cy
  obtain ⟨ao, ca, rfl, hca, ha⟩ := hx.open
  obtain ⟨bo, cb, rfl, hcb, hb⟩ := hy.open
  have HA : Hid (x.length = 0 ∨ ∃ b off, ao = some ⟨b, off, none⟩ ∧ b < w.heap.size ∧ ∀ i, i < x.length → w.cell? ⟨b, off + i, none⟩ = some (.int .i64 (x.getD i 0 : Nat))) := ha
  have HB : Hid (y.length = 0 ∨ ∃ b off, bo = some ⟨b, off, none⟩ ∧ b < w.heap.size ∧ ∀ i, i < y.length → w.cell? ⟨b, off + i, none⟩ = some (.int .i64 (y.getD i 0 : Nat))) := hb
  clear hx hy cx cy ha hb
  go_enter Tryz.func117, Tryz.ntmps117
  go_wp2
  go_loopw [5, 6, 7] (fun v5 v6 v7 wr => ∃ (i c : Nat) (l : List Nat), v7 = .int .i64 (i : Int) ∧ v6 = .int .i64 (c : Int) ∧ wr.ownsRow w.heap.size 3 1 v5 l.length (l.map dv) ∧ PlusR x y i c l ∧ Below w.heap.size w wr) (fun _ _ v7 _ => x.length + y.length + 1 - (intOf v7).toNat)
  case atStart => exact ⟨0, 0, [], rfl, rfl, World.ownsRow_nil _ _ _ _, ⟨rfl, Nat.zero_le _, Nat.zero_le _, by simp, by simp [nval], fun _ _ _ => canon_nil⟩, Below.refl _ _⟩
  case round =>
    obtain ⟨i, c, l, rfl, rfl, hown, hR, hbr⟩ := hrel
    have hc1 := hR.one
    have hle := hR.le
    have hll := hR.len
    have hlen : l.length ≤ 2000001 := by omega
    have HR : Hid (PlusR x y i c l) := hR
    have hi2 : i ≤ 2000001 := by omega
    generalize hp : x.getD i 0 = p
    generalize hq : y.getD i 0 = q
    have hpl : p < 16777216 := by rw [← hp]; exact getD_lt HDX.out i
    have hql : q < 16777216 := by rw [← hq]; exact getD_lt HDY.out i
    have S : i < x.length ∨ i < y.length ∨ 0 < c → Hid (PlusR x y (i + 1) ((c + p + q) / 16777216) (l ++ [(c + p + q) % 16777216])) := hR.step HDX.out HDY.out HCX.out HCY.out hp hq
    have HP : Hid (x.getD i 0 = p) := hp
    have HQ : Hid (y.getD i 0 = q) := hq
    clear hR hll hp hq
    rcases (show (i < x.length ∧ i < y.length) ∨ (i < x.length ∧ ¬ i < y.length) ∨ (¬ i < x.length ∧ i < y.length) ∨ (¬ i < x.length ∧ ¬ i < y.length ∧ 0 < c) ∨ (¬ i < x.length ∧ ¬ i < y.length ∧ c = 0) by omega) with ⟨g1, g2⟩ | ⟨g1, g2⟩ | ⟨g1, g2⟩ | ⟨g1, g2, g3⟩ | ⟨g1, g2, g3⟩
    · have S := S (Or.inl g1)
      have cxa : ∃ b1 o1, ao = some ⟨b1, o1, none⟩ ∧ wr.cell? ⟨b1, o1 + i, none⟩ = some (.int .i64 (p : Int)) := by
        obtain ⟨b1, o1, h1, h2, h3⟩ := HA.out.resolve_left (by omega)
        exact ⟨b1, o1, h1, by rw [hbr.cell (p := ⟨b1, o1 + i, none⟩) h2, h3 i g1, HP.out]⟩
      obtain ⟨b1, o1, rfl, c1⟩ := cxa
      have cyb : ∃ b2 o2, bo = some ⟨b2, o2, none⟩ ∧ wr.cell? ⟨b2, o2 + i, none⟩ = some (.int .i64 (q : Int)) := by
        obtain ⟨b2, o2, h1, h2, h3⟩ := HB.out.resolve_left (by omega)
        exact ⟨b2, o2, h1, by rw [hbr.cell (p := ⟨b2, o2 + i, none⟩) h2, h3 i g2, HQ.out]⟩
      obtain ⟨b2, o2, rfl, c2⟩ := cyb
      go_wp2_with (first
        | (at_builtin; refine wpList_append_own _ rfl _ _ 40 rfl w.heap.size 3 i0 (.int .i64 0) 1 8 Tryz.underlying40 hi hz0 hz1 hz2 rfl (by decide) _ _ _ rfl (hown.alloc _) ⟨wr.heap.size, 0, none⟩ 1 1 [.int .i64 (((c : Int) + p + q) % 16777216)] rfl rfl ?a1 ?a2 ?a3 ?a4 ?a5 ?_)
        | go_in)
      case a1 =>
        intro j u hj
        match j, hj with
        | 0, hj => simp at hj; subst hj; simp [Addr.add]
      case a2 => intro u hu; simp at hu; subst hu; rfl
      case a3 => unfold maxLen; omega
      case a4 => omega
      case a5 => have := hbr.size; simp; omega
      · intro v' w1 hown' hgrow _
        have R := push_step hown hbr (Nat.le_refl _) hown' (d := (c + p + q) % 16777216) (by omega) hgrow
        clear hown' hgrow hown hbr
        go_wp2
        go_roundw
        case rel => exact ⟨_, _, l ++ [(c + p + q) % 16777216], by go_num, by go_num, R.1, S.out, R.2⟩
        case measure => simp [intOf]; omega
    · have S := S (Or.inl g1)
      have cxa : ∃ b1 o1, ao = some ⟨b1, o1, none⟩ ∧ wr.cell? ⟨b1, o1 + i, none⟩ = some (.int .i64 (p : Int)) := by
        obtain ⟨b1, o1, h1, h2, h3⟩ := HA.out.resolve_left (by omega)
        exact ⟨b1, o1, h1, by rw [hbr.cell (p := ⟨b1, o1 + i, none⟩) h2, h3 i g1, HP.out]⟩
      obtain ⟨b1, o1, rfl, c1⟩ := cxa
      have hq0 : q = 0 := by rw [← HQ.out]; simp [List.getD, List.getElem?_eq_none (Nat.le_of_not_lt g2)]
      have HQ0 : Hid (q = 0) := hq0
      clear hq0
      go_wp2_with (first
        | (at_builtin; refine wpList_append_own _ rfl _ _ 40 rfl w.heap.size 3 i0 (.int .i64 0) 1 8 Tryz.underlying40 hi hz0 hz1 hz2 rfl (by decide) _ _ _ rfl (hown.alloc _) ⟨wr.heap.size, 0, none⟩ 1 1 [.int .i64 (((c : Int) + p) % 16777216)] rfl rfl ?b1 ?b2 ?b3 ?b4 ?b5 ?_)
        | go_in)
      case b1 =>
        intro j u hj
        match j, hj with
        | 0, hj => simp at hj; subst hj; simp [Addr.add]
      case b2 => intro u hu; simp at hu; subst hu; rfl
      case b3 => unfold maxLen; omega
      case b4 => omega
      case b5 => have := hbr.size; simp; omega
      · intro v' w1 hown' hgrow _
        have R := push_step hown hbr (Nat.le_refl _) hown' (d := (c + p + q) % 16777216) (by have := HQ0.out; omega) hgrow
        clear hown' hgrow hown hbr
        go_wp2
        go_roundw
        case rel => exact ⟨_, _, l ++ [(c + p + q) % 16777216], by go_num, by rw [HQ0.out]; go_num, R.1, S.out, R.2⟩
        case measure => simp [intOf]; omega
    · have S := S (Or.inr (Or.inl g2))
      have cyb : ∃ b2 o2, bo = some ⟨b2, o2, none⟩ ∧ wr.cell? ⟨b2, o2 + i, none⟩ = some (.int .i64 (q : Int)) := by
        obtain ⟨b2, o2, h1, h2, h3⟩ := HB.out.resolve_left (by omega)
        exact ⟨b2, o2, h1, by rw [hbr.cell (p := ⟨b2, o2 + i, none⟩) h2, h3 i g2, HQ.out]⟩
      obtain ⟨b2, o2, rfl, c2⟩ := cyb
      have hp0 : p = 0 := by rw [← HP.out]; simp [List.getD, List.getElem?_eq_none (Nat.le_of_not_lt g1)]
      have HP0 : Hid (p = 0) := hp0
      clear hp0
      go_wp2_with (first
        | (at_builtin; refine wpList_append_own _ rfl _ _ 40 rfl w.heap.size 3 i0 (.int .i64 0) 1 8 Tryz.underlying40 hi hz0 hz1 hz2 rfl (by decide) _ _ _ rfl (hown.alloc _) ⟨wr.heap.size, 0, none⟩ 1 1 [.int .i64 (((c : Int) + q) % 16777216)] rfl rfl ?c1 ?c2 ?c3 ?c4 ?c5 ?_)
        | go_in)
      case c1 =>
        intro j u hj
        match j, hj with
        | 0, hj => simp at hj; subst hj; simp [Addr.add]
      case c2 => intro u hu; simp at hu; subst hu; rfl
      case c3 => unfold maxLen; omega
      case c4 => omega
      case c5 => have := hbr.size; simp; omega
      · intro v' w1 hown' hgrow _
        have R := push_step hown hbr (Nat.le_refl _) hown' (d := (c + p + q) % 16777216) (by have := HP0.out; omega) hgrow
        clear hown' hgrow hown hbr
        go_wp2
        go_roundw
        case rel => exact ⟨_, _, l ++ [(c + p + q) % 16777216], by go_num, by rw [HP0.out]; go_num, R.1, S.out, R.2⟩
        case measure => simp [intOf]; omega
    · have S := S (Or.inr (Or.inr g3))
      have hp0 : p = 0 := by rw [← HP.out]; simp [List.getD, List.getElem?_eq_none (Nat.le_of_not_lt g1)]
      have hq0 : q = 0 := by rw [← HQ.out]; simp [List.getD, List.getElem?_eq_none (Nat.le_of_not_lt g2)]
      have HP0 : Hid (p = 0) := hp0
      have HQ0 : Hid (q = 0) := hq0
      clear hp0 hq0
      go_wp2_with (first
        | (at_builtin; refine wpList_append_own _ rfl _ _ 40 rfl w.heap.size 3 i0 (.int .i64 0) 1 8 Tryz.underlying40 hi hz0 hz1 hz2 rfl (by decide) _ _ _ rfl (hown.alloc _) ⟨wr.heap.size, 0, none⟩ 1 1 [.int .i64 (((c : Int)) % 16777216)] rfl rfl ?d1 ?d2 ?d3 ?d4 ?d5 ?_)
        | go_in)
      case d1 =>
        intro j u hj
        match j, hj with
        | 0, hj => simp at hj; subst hj; simp [Addr.add]
      case d2 => intro u hu; simp at hu; subst hu; rfl
      case d3 => unfold maxLen; omega
      case d4 => omega
      case d5 => have := hbr.size; simp; omega
      · intro v' w1 hown' hgrow _
        have R := push_step hown hbr (Nat.le_refl _) hown' (d := (c + p + q) % 16777216) (by have := HP0.out; have := HQ0.out; omega) hgrow
        clear hown' hgrow hown hbr
        go_wp2
        go_roundw
        case rel => exact ⟨_, _, l ++ [(c + p + q) % 16777216], by go_num, by rw [HP0.out, HQ0.out]; go_num, R.1, S.out, R.2⟩
        case measure => simp [intOf]; omega
    · subst g3
      go_wp2_with fail
      go_ret
      refine ⟨_, rfl, ?_, hbr⟩
      unfold NatV
      rw [HR.out.done (by omega) (by omega)]
      exact Dig.of_owns hown HR.out.dig

theorem plus_any (a b : Nat) (va vb : Value) (w : World) (ha : NatV w va a) (hb : NatV w vb b) (hla : (digits a).length ≤ 1000000) (hlb : (digits b).length ≤ 1000000) :
    Calls Tryz.prog 117 #[va, vb] w fun e w' => ∃ v, e = .returned v ∧ NatV w' v (a + b) ∧ Below w.heap.size w w' := by
  have := plus_dig _ _ va vb w ha hb (canon_digits a) (canon_digits b) hla hlb
  rwa [nval_digits, nval_digits] at this
end Go.Proofs.YtonhpkigoplmaaaGreatDoor
