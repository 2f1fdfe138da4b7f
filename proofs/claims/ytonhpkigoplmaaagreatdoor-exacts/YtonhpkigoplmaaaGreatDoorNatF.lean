/-
  encloseref.up.
-/
import Derived.Test.YtonhpkigoplmaaaGreatDoorNatE
namespace Go.Proofs.YtonhpkigoplmaaaGreatDoor
open Go.RowKit

theorem nval_replicate_zero (n : Nat) : nval (List.replicate n 0) = 0 := by
  induction n with
  | zero => rfl
  | succ n ih => simp [List.replicate_succ, nval, ih]

theorem canon_append {x y : List Nat} (hy : y ≠ []) (h : Canon y) : Canon (x ++ y) := by
  unfold Canon at *
  rw [List.getLast?_append]
  cases e : y.getLast? with
  | none => exact absurd (List.getLast?_eq_none_iff.1 e) hy
  | some z => rw [e] at h; simpa using h

theorem up_digits {a k : Nat} (ha : a ≠ 0) : digits (a * 2 ^ k) = List.replicate (k / 24) 0 ++ digits (a * 2 ^ (k % 24)) := by
  have hne : digits (a * 2 ^ (k % 24)) ≠ [] := by
    rw [Ne, digits_nil_iff]
    exact Nat.mul_ne_zero ha (Nat.ne_of_gt (Nat.two_pow_pos _))
  have h := digits_of (List.replicate (k / 24) 0 ++ digits (a * 2 ^ (k % 24)))
    (fun d hd => by
      rcases List.mem_append.1 hd with hd | hd
      · rw [List.eq_of_mem_replicate hd]; omega
      · exact digits_lt _ d hd) (canon_append hne (canon_digits _))
  rw [nval_append, nval_replicate_zero, nval_digits, List.length_replicate, Nat.zero_add] at h
  rw [← h]
  congr 1
  have e : (16777216 : Nat) = 2 ^ 24 := rfl
  rw [e, ← Nat.pow_mul, Nat.mul_comm (2 ^ (24 * (k / 24))), Nat.mul_assoc, ← Nat.pow_add]
  congr 2
  omega

theorem pow24 {k : Nat} (h : k < 24) : 2 ^ k ≤ 8388608 := by
  have : 2 ^ k ≤ 2 ^ 23 := Nat.pow_le_pow_right (by decide) (by omega)
  simpa using this

theorem ownsRow_below {w w' : World} {base : Nat} {e : TypeId} {size : Nat} {v : Value} {n : Nat} {xs : List Value} (h : w.ownsRow base e size v n xs) (hb : Below w.heap.size w w') : w'.ownsRow base e size v n xs := by
  obtain ⟨h1, h2⟩ := h
  refine ⟨h1, ?_⟩
  rcases h2 with h2 | ⟨g, cap, cur, hv, hg, hh, r⟩
  · exact Or.inl h2
  · exact Or.inr ⟨g, cap, cur, hv, hg, by rw [hb.block g (Array.getElem?_eq_some_iff.1 hh).1]; exact hh, r⟩

theorem len_up (a k : Nat) : (digits (a * 2 ^ (k % 24))).length ≤ (digits a).length + 1 := by
  apply len_of_lt
  rw [Nat.pow_succ]
  have h1 := lt_pow_len a
  have h2 := pow24 (Nat.mod_lt k (by decide : 0 < 24))
  have h3 : a * 2 ^ (k % 24) ≤ a * 8388608 := Nat.mul_le_mul_left _ h2
  omega

theorem wrap_pow24 (k : Nat) : wrap64 (2 ^ (k % 24)) = ((2 ^ (k % 24) : Nat) : Int) := by
  have h := pow24 (Nat.mod_lt k (by decide : 0 < 24))
  have e : (2 : Int) ^ (k % 24) = ((2 ^ (k % 24) : Nat) : Int) := by rw [Int.natCast_pow]; rfl
  rw [e]
  clear e
  generalize (2 ^ (k % 24) : Nat) = m at h ⊢
  unfold wrap64; omega

set_option maxHeartbeats 4000000 in
set_option maxRecDepth 100000 in
theorem up_any (a k : Nat) (va : Value) (w : World) (ha : NatV w va a) (hla : (digits a).length ≤ 500000) (hk : k ≤ 1000000) :
    Calls Tryz.prog 123 #[va, .int .i64 (k : Int)] w fun e w' => ∃ v, e = .returned v ∧ NatV w' v (a * 2 ^ k) ∧ Below w.heap.size w w' := by
  obtain ⟨i0, hi, hz0, hz1, hz2⟩ := info_parts infoInt
  have HA : Hid (NatV w va a) := ha
  obtain ⟨ao, ca, hv, hca, hcell⟩ := ha.open
  by_cases h0 : a = 0
  · subst h0
    rw [digits_zero] at hv
    subst hv
    clear hcell ha HA
    go_enter Tryz.func123, Tryz.ntmps123
    go_wp2
    go_ret
    refine ⟨_, rfl, ?_, Below.refl _ _⟩
    rw [Nat.zero_mul]
    exact ⟨by simp [digits_zero], Or.inl ⟨rfl, rfl⟩⟩
  · have hl0 : (((digits a).length : Int) == 0) = false := by
      have : digits a ≠ [] := fun e => h0 ((digits_nil_iff a).1 e)
      have : (digits a).length ≠ 0 := fun e => this (List.length_eq_zero_iff.1 e)
      simp; omega
    rw [hv]
    rw [hv] at HA
    clear hcell ha hv
    go_enter Tryz.func123, Tryz.ntmps123
    go_wp2_with (at_make; refine wpList_make_full _ rfl _ _ 40 rfl w.heap.size 3 i0 (.int .i64 0) 1 Tryz.underlying40 hi hz0 hz1 _ _ _ _ (k / 24) rfl rfl (by omega) (by omega) ?m1 ?m2 ?m3 ?_)
    case m1 => rw [hz2]; omega
    case m2 => unfold maxLen; omega
    case m3 => exact Nat.le_refl _
    intro w1 hown1 hgrow1
    rw [toList_madeCells_one] at hown1
    have hown1 : w1.ownsRow w.heap.size 3 1 (.slice (some ⟨w.heap.size, 0, none⟩) (k / 24) (k / 24)) (k / 24) ((List.replicate (k / 24) 0).map dv) := by
      simpa [dv] using hown1
    have hb1 : Below w.heap.size w w1 := (Below.refl _ _).grown hgrow1 (Nat.le_refl _) (fun k hk => by cases hk)
    clear hgrow1
    go_wp2_with fail
    rw [wrap_pow24]
    refine (nat_any (2 ^ (k % 24)) _ (by have := pow24 (Nat.mod_lt k (by decide : 0 < 24)); omega)).mono ?_
    rintro e w2 ⟨v2, rfl, hN2, hb2⟩
    have HA2 := (HA.out.below hb1 (Nat.le_refl _)).below hb2 (Nat.le_refl _)
    go_wp2_with fail
    refine (times_any a (2 ^ (k % 24)) _ _ _ HA2 hN2 (by omega) (by have := len_of_lt2 (n := 2 ^ (k % 24)) (k := 24) (by have := pow24 (Nat.mod_lt k (by decide : 0 < 24)); omega); omega)).mono ?_
    rintro e w3 ⟨v3, rfl, hN3, hb3⟩
    have hbA : Below w.heap.size w w3 := (hb1.trans (hb2.mono hb1.size)).trans (hb3.mono (Nat.le_trans hb1.size hb2.size))
    have hne : digits (a * 2 ^ (k % 24)) ≠ [] := by
      rw [Ne, digits_nil_iff]
      exact Nat.mul_ne_zero h0 (Nat.ne_of_gt (Nat.two_pow_pos _))
    obtain ⟨ao3, c3, rfl, hc3, hcell3⟩ := hN3.open
    obtain ⟨b3, o3, rfl, hbl3, hcell3⟩ := hcell3.resolve_left (fun e => hne (List.length_eq_zero_iff.1 e))
    have hl3 := len_up a k
    have hown3 := ownsRow_below (ownsRow_below hown1 hb2) hb3
    have HUP : Hid (digits (a * 2 ^ k) = List.replicate (k / 24) 0 ++ digits (a * 2 ^ (k % 24))) := up_digits h0
    have hd3 : Hid (∀ d ∈ digits (a * 2 ^ (k % 24)), d < 16777216) := digits_lt _
    clear hN2 hN3 HA2 hown1 hb1 hb2 hb3 hne
    generalize digits (a * 2 ^ (k % 24)) = l3 at *
    have hcl : Hid (∀ i, i < l3.length → w3.cell? ⟨b3, o3 + i, none⟩ = some (.int .i64 (l3.getD i 0 : Nat))) := hcell3
    clear hcell3
    go_wp2_with (first
      | (at_builtin; refine wpList_append_own _ rfl _ _ 40 rfl w.heap.size 3 i0 (.int .i64 0) 1 8 Tryz.underlying40 hi hz0 hz1 hz2 rfl (by decide) _ _ _ rfl hown3 ⟨b3, o3, none⟩ l3.length c3 (l3.map dv) rfl (by simp) ?a1 ?a2 ?a3 ?a4 ?a5 ?_)
      | go_in)
    case a1 =>
      intro j u hj
      rw [List.getElem?_map] at hj
      have hjl : j < l3.length := by
        rcases Nat.lt_or_ge j l3.length with h | h
        · exact h
        · rw [List.getElem?_eq_none h] at hj; simp at hj
      rw [List.getElem?_eq_getElem hjl] at hj
      have := hcl.out j hjl
      have ea : (Addr.mk b3 o3 none).add j = ⟨b3, o3 + j, none⟩ := by
        by_cases h : j = 0
        · subst h; simp [Addr.add]
        · simp [Addr.add, h]
      rw [ea, this]
      simpa [dv, List.getD, List.getElem?_eq_getElem hjl] using hj
    case a2 =>
      intro u hu
      obtain ⟨d, _, rfl⟩ := List.mem_map.1 hu
      rfl
    case a3 => unfold maxLen; omega
    case a4 => omega
    case a5 => have := hbA.size; omega
    intro v' w4 hown4 hgrow4 _
    have hb4 : Below w.heap.size w w4 := hbA.grown hgrow4 (hbA.size) (fun k hk => (hown3.lt k hk).1)
    have hfin : NatV w4 v' (a * 2 ^ k) := by
      unfold NatV
      rw [HUP.out]
      refine Dig.of_owns (B := w.heap.size) ?_ ?_
      · simpa using hown4
      · intro d hd
        rcases List.mem_append.1 hd with hd | hd
        · rw [List.eq_of_mem_replicate hd]; omega
        · exact hd3.out d hd
    clear hown4 hgrow4 hown3
    go_wp2
    go_ret
    exact ⟨_, rfl, hfin, hb4⟩
end Go.Proofs.YtonhpkigoplmaaaGreatDoor
