/-
  NatG, NatH, NumF.
-/
import Derived.Test.YtonhpkigoplmaaaGreatDoorP02
import Derived.Test.YtonhpkigoplmaaaGreatDoorP03
namespace Go.Proofs.YtonhpkigoplmaaaGreatDoor
open Go.RowKit

/-- How many bits a number has. -/
def bl (n : Nat) : Nat := if n = 0 then 0 else n.log2 + 1

theorem bl_zero : bl 0 = 0 := rfl
theorem bl_bounds {n : Nat} (h : 0 < n) : 2 ^ (bl n - 1) ≤ n ∧ n < 2 ^ bl n ∧ 0 < bl n := by
  have hn : n ≠ 0 := by omega
  unfold bl
  rw [if_neg hn]
  exact ⟨by simpa using Nat.log2_self_le hn, Nat.lt_log2_self, by omega⟩

theorem bl_unique {n k : Nat} (h1 : 2 ^ k ≤ n) (h2 : n < 2 ^ (k + 1)) : bl n = k + 1 := by
  have hn : 0 < n := Nat.lt_of_lt_of_le (Nat.two_pow_pos k) h1
  obtain ⟨b1, b2, b3⟩ := bl_bounds hn
  have c1 : 2 ^ (bl n - 1) < 2 ^ (k + 1) := Nat.lt_of_le_of_lt b1 h2
  have c2 : 2 ^ k < 2 ^ bl n := Nat.lt_of_le_of_lt h1 b2
  have d1 := (Nat.pow_lt_pow_iff_right (by decide : 1 < 2)).1 c1
  have d2 := (Nat.pow_lt_pow_iff_right (by decide : 1 < 2)).1 c2
  omega

theorem bl_half {t : Nat} (h : 0 < t) : bl (t / 2) + 1 = bl t := by
  rcases Nat.lt_or_ge t 2 with h2 | h2
  · have : t = 1 := by omega
    subst this; rfl
  · obtain ⟨b1, b2, b3⟩ := bl_bounds (show 0 < t / 2 by omega)
    have e : bl (t / 2) = (bl (t / 2) - 1) + 1 := by omega
    have k1 : 2 ^ bl (t / 2) = 2 ^ (bl (t / 2) - 1) * 2 := by rw [← Nat.pow_succ]; congr 1
    have := bl_unique (n := t) (k := bl (t / 2)) (by omega) (by rw [Nat.pow_succ]; omega)
    omega

theorem bl_top {l : List Nat} {L : Nat} (hl : l.length = L + 1) (hd : ∀ d ∈ l, d < 16777216) (hpos : 0 < l.getD L 0) : bl (nval l) = 24 * L + bl (l.getD L 0) := by
  have hs := nval_split l L (by omega)
  have hdrop : l.drop (L + 1) = [] := List.drop_eq_nil_of_le (by omega)
  rw [hdrop] at hs
  simp only [nval, Nat.mul_zero, Nat.add_zero] at hs
  have hlow := nval_lt (l.take L) (fun d hm => hd d (List.mem_of_mem_take hm))
  have hll : (l.take L).length = L := by simp; omega
  rw [hll] at hlow
  have e24 : (16777216 : Nat) = 2 ^ 24 := rfl
  rw [e24, ← Nat.pow_mul] at hs hlow
  obtain ⟨b1, b2, b3⟩ := bl_bounds hpos
  generalize l.getD L 0 = d at *
  have h1 : 2 ^ (24 * L) * 2 ^ (bl d - 1) ≤ 2 ^ (24 * L) * d := Nat.mul_le_mul_left _ b1
  have h2 : 2 ^ (24 * L) * (d + 1) ≤ 2 ^ (24 * L) * 2 ^ bl d := Nat.mul_le_mul_left _ b2
  rw [← Nat.pow_add] at h1 h2
  rw [Nat.mul_add, Nat.mul_one] at h2
  have := bl_unique (n := nval l) (k := 24 * L + (bl d - 1)) (by omega) (by
    rw [show 24 * L + (bl d - 1) + 1 = 24 * L + bl d by omega]; omega)
  omega

set_option maxRecDepth 100000 in
theorem size_any (a : Nat) (va : Value) (w : World) (ha : NatV w va a) (hla : (digits a).length ≤ 1000000) :
    Calls Tryz.prog 161 #[va] w fun e w' => e = .returned (.int .i64 (bl a : Int)) ∧ w' = w := by
  obtain ⟨ao, ca, rfl, hca, hcell⟩ := Dig.open ha
  by_cases h0 : a = 0
  · subst h0
    rw [digits_zero]
    clear hcell ha hla hca
    go_enter Tryz.func161, Tryz.ntmps161
    go_wp2
    go_ret
    exact ⟨rfl, rfl⟩
  · have hne : (digits a).length ≠ 0 := fun e => h0 ((digits_nil_iff a).1 (List.length_eq_zero_iff.1 e))
    obtain ⟨b, off, rfl, hbl, hc⟩ := hcell.resolve_left hne
    obtain ⟨L, hL⟩ : ∃ L, (digits a).length = L + 1 := ⟨(digits a).length - 1, by omega⟩
    have hlast := canon_last (canon_digits a) hL
    have htop := bl_top hL (digits_lt a) (by omega)
    rw [nval_digits] at htop
    have hcl := hc L (by omega)
    have hdl := getD_lt (digits_lt a) L
    rw [hL] at hla hca ⊢
    clear hc ha hL hne
    generalize (digits a).getD L 0 = d at *
    have HT : Hid (bl a = 24 * L + bl d) := htop
    have t0 : (((L + 1 : Nat) : Int) == 0) = false := by simp; omega
    clear htop
    go_enter Tryz.func161, Tryz.ntmps161
    go_wp2
    go_loop [3, 4] (fun v3 v4 => ∃ t j : Nat, t ≤ d ∧ v4 = .int .i64 (t : Int) ∧ v3 = .int .i64 ((24 * L + j : Nat) : Int) ∧ bl t + j = bl d ∧ j ≤ 30) (fun _ v4 => (intOf v4).toNat)
    case atStart =>
      refine ⟨d, 0, Nat.le_refl _, rfl, by go_num, by omega, by omega⟩
    case round =>
      obtain ⟨t, j, ht, rfl, rfl, hb, hj⟩ := hrel
      have HB : Hid (bl t + j = bl d) := hb
      clear hb
      by_cases htp : 0 < t
      · have hj2 : j + 1 ≤ 30 := by
          have h1 := HB.out
          obtain ⟨b1, b2, b3⟩ := bl_bounds (show 0 < d by omega)
          have : 2 ^ (bl d - 1) < 2 ^ 24 := Nat.lt_of_le_of_lt b1 hdl
          have := (Nat.pow_lt_pow_iff_right (by decide : 1 < 2)).1 this
          obtain ⟨_, _, c3⟩ := bl_bounds htp
          omega
        go_wp2
        go_round
        case rel => exact ⟨t / 2, j + 1, by omega, by go_num, by go_num, by have := bl_half htp; have := HB.out; omega, hj2⟩
        case measure => simp [intOf]; omega
      · have ht0 : t = 0 := by omega
        subst ht0
        go_wp2
        go_ret
        have := HB.out
        rw [bl_zero] at this
        rw [HT.out, show 24 * L + bl d = 24 * L + j by omega]
        exact ⟨rfl, rfl⟩
end Go.Proofs.YtonhpkigoplmaaaGreatDoor
namespace Go.Proofs.YtonhpkigoplmaaaGreatDoor
open Go.RowKit

/-- The digits of a number divided by 2^s, s below 24. -/
def shrL (s : Nat) : List Nat → List Nat
  | [] => []
  | d :: r => (d / 2 ^ s + r.headD 0 % 2 ^ s * 2 ^ (24 - s)) :: shrL s r

theorem shrL_length (s : Nat) : ∀ l, (shrL s l).length = l.length
  | [] => rfl
  | d :: r => by simp [shrL, shrL_length s r]

theorem pow_split {s : Nat} (hs : s < 24) : 2 ^ s * 2 ^ (24 - s) = 16777216 := by
  rw [← Nat.pow_add, show s + (24 - s) = 24 by omega]

theorem nval_mod {s : Nat} (hs : s < 24) : ∀ l, nval l % 2 ^ s = l.headD 0 % 2 ^ s
  | [] => by simp [nval]
  | d :: r => by
    have h := pow_split hs
    simp only [nval, List.headD_cons]
    rw [← h, Nat.mul_assoc, Nat.add_mul_mod_self_left]

theorem nval_shrL {s : Nat} (hs : s < 24) : ∀ l, nval (shrL s l) = nval l / 2 ^ s
  | [] => by simp [nval, shrL]
  | d :: r => by
    have h := pow_split hs
    have ih := nval_shrL hs r
    have hm := nval_mod hs r
    simp only [nval, shrL]
    rw [ih, ← hm]
    have e1 : d + 16777216 * nval r = d + 2 ^ s * (2 ^ (24 - s) * nval r) := by rw [← Nat.mul_assoc, h]
    rw [e1, Nat.add_mul_div_left _ _ (Nat.two_pow_pos s)]
    have e2 : nval r = 2 ^ s * (nval r / 2 ^ s) + nval r % 2 ^ s := (Nat.div_add_mod _ _).symm
    generalize nval r / 2 ^ s = Q at *
    generalize nval r % 2 ^ s = R at *
    rw [e2, Nat.mul_add, ← Nat.mul_assoc (2 ^ (24 - s)), Nat.mul_comm (2 ^ (24 - s)) (2 ^ s), h, Nat.mul_comm (2 ^ (24 - s)) R]
    omega

theorem shrL_lt {s : Nat} (hs : s < 24) : ∀ l, (∀ d ∈ l, d < 16777216) → ∀ d ∈ shrL s l, d < 16777216
  | [], _, d, hd => by simp [shrL] at hd
  | a :: r, hl, d, hd => by
    have h := pow_split hs
    simp only [shrL, List.mem_cons] at hd
    rcases hd with rfl | hd
    · have ha := hl a (by simp)
      have h1 : a / 2 ^ s < 2 ^ (24 - s) := by
        rw [Nat.div_lt_iff_lt_mul (Nat.two_pow_pos s), Nat.mul_comm, h]; exact ha
      have h2 : r.headD 0 % 2 ^ s < 2 ^ s := Nat.mod_lt _ (Nat.two_pow_pos s)
      have h3 : (r.headD 0 % 2 ^ s + 1) * 2 ^ (24 - s) ≤ 2 ^ s * 2 ^ (24 - s) := Nat.mul_le_mul_right _ h2
      rw [h, Nat.add_mul, Nat.one_mul] at h3
      omega
    · exact shrL_lt hs r (fun x hx => hl x (by simp [hx])) d hd

theorem shrL_getD (s : Nat) : ∀ (l : List Nat) (j : Nat), j < l.length → (shrL s l).getD j 0 = l.getD j 0 / 2 ^ s + l.getD (j + 1) 0 % 2 ^ s * 2 ^ (24 - s)
  | [], j, h => by simp at h
  | d :: r, 0, _ => by
    simp only [shrL, List.getD_cons_zero, List.getD_cons_succ]
    cases r <;> simp
  | d :: r, j + 1, h => by
    simp only [shrL, List.getD_cons_succ]
    exact shrL_getD s r j (by simpa using h)

/-- Are the lowest q digits all 0? -/
def zeros (l : List Nat) (q : Nat) : Bool := decide (nval (l.take q) = 0)

theorem zeros_succ (l : List Nat) (i : Nat) : zeros l (i + 1) = (zeros l i && decide (l.getD i 0 = 0)) := by
  unfold zeros
  rw [nval_take_succ]
  have hp : 0 < 16777216 ^ i := Nat.pow_pos (by decide)
  rw [Bool.eq_iff_iff]
  simp only [decide_eq_true_eq, Bool.and_eq_true]
  constructor
  · intro h
    refine ⟨by omega, ?_⟩
    have : 16777216 ^ i * l.getD i 0 = 0 := by omega
    rcases Nat.mul_eq_zero.1 this with h | h
    · omega
    · exact h
  · rintro ⟨h1, h2⟩
    rw [h1, h2]; rfl

theorem nval_take_drop (l : List Nat) (q : Nat) (hq : q ≤ l.length) : nval l = nval (l.take q) + 16777216 ^ q * nval (l.drop q) := by
  conv => lhs; rw [← List.take_append_drop q l]
  rw [nval_append]
  have : (l.take q).length = q := by simp; omega
  rw [this]

theorem pow24q (k : Nat) : 2 ^ k = 16777216 ^ (k / 24) * 2 ^ (k % 24) := by
  have e : (16777216 : Nat) = 2 ^ 24 := rfl
  rw [e, ← Nat.pow_mul, ← Nat.pow_add]
  congr 1
  omega

/-- A number divided by 2^k, by its digits. -/
theorem down_val (l : List Nat) (k : Nat) (hl : ∀ d ∈ l, d < 16777216) (hq : k / 24 ≤ l.length) :
    nval l / 2 ^ k = nval (l.drop (k / 24)) / 2 ^ (k % 24) ∧ (nval l % 2 ^ k = 0 ↔ nval (l.take (k / 24)) = 0 ∧ nval (l.drop (k / 24)) % 2 ^ (k % 24) = 0) := by
  have h1 := nval_take_drop l (k / 24) hq
  have h2 := nval_lt (l.take (k / 24)) (fun d hm => hl d (List.mem_of_mem_take hm))
  have h3 : (l.take (k / 24)).length = k / 24 := by simp; omega
  rw [h3] at h2
  have hp : 0 < 16777216 ^ (k / 24) := Nat.pow_pos (by decide)
  rw [pow24q k, h1]
  generalize 16777216 ^ (k / 24) = P at *
  generalize nval (l.take (k / 24)) = lo at *
  generalize nval (l.drop (k / 24)) = hi at *
  constructor
  · rw [← Nat.div_div_eq_div_mul, Nat.add_mul_div_left _ _ hp, Nat.div_eq_of_lt h2, Nat.zero_add]
  · rw [Nat.mod_mul, Nat.add_mul_mod_self_left, Nat.mod_eq_of_lt h2, Nat.add_mul_div_left _ _ hp, Nat.div_eq_of_lt h2, Nat.zero_add]
    constructor
    · intro h
      refine ⟨by omega, ?_⟩
      have : P * (hi % 2 ^ (k % 24)) = 0 := by omega
      rcases Nat.mul_eq_zero.1 this with h | h
      · omega
      · exact h
    · rintro ⟨h4, h5⟩
      rw [h4, h5]; rfl

theorem down_small (l : List Nat) (k : Nat) (hl : ∀ d ∈ l, d < 16777216) (hq : l.length ≤ k / 24) : nval l / 2 ^ k = 0 ∧ (nval l % 2 ^ k = 0 ↔ nval l = 0) := by
  have h2 := nval_lt l hl
  have h3 : 16777216 ^ l.length ≤ 16777216 ^ (k / 24) := Nat.pow_le_pow_right (by decide) hq
  have h4 : 16777216 ^ (k / 24) * 1 ≤ 16777216 ^ (k / 24) * 2 ^ (k % 24) := Nat.mul_le_mul_left _ Nat.one_le_two_pow
  rw [pow24q k]
  have : nval l < 16777216 ^ (k / 24) * 2 ^ (k % 24) := by omega
  rw [Nat.div_eq_of_lt this, Nat.mod_eq_of_lt this]
  exact ⟨rfl, Iff.rfl⟩

theorem digit_small {x y s : Nat} (hs : s < 24) (hx : x < 16777216) : x / 2 ^ s + y % 2 ^ s * 2 ^ (24 - s) < 16777216 := by
  have h := pow_split hs
  have h1 : x / 2 ^ s < 2 ^ (24 - s) := by
    rw [Nat.div_lt_iff_lt_mul (Nat.two_pow_pos s), Nat.mul_comm, h]; exact hx
  have h2 : y % 2 ^ s < 2 ^ s := Nat.mod_lt _ (Nat.two_pow_pos s)
  have h3 : (y % 2 ^ s + 1) * 2 ^ (24 - s) ≤ 2 ^ s * 2 ^ (24 - s) := Nat.mul_le_mul_right _ h2
  rw [h, Nat.add_mul, Nat.one_mul] at h3
  omega

theorem wrap_digit {x y s p : Nat} (hs : s < 24) (hx : x < 16777216) (hp : 2 ^ s = p) : wrap64 ((x : Int) / 2 ^ s + wrap64 ((y : Int) % (p : Int) * 2 ^ (24 - s))) = ((x / 2 ^ s + y % 2 ^ s * 2 ^ (24 - s) : Nat) : Int) := by
  subst hp
  have hd := digit_small (y := y) hs hx
  have e1 : (2 : Int) ^ (24 - s) = ((2 ^ (24 - s) : Nat) : Int) := by rw [Int.natCast_pow]; rfl
  have e2 : (2 : Int) ^ s = ((2 ^ s : Nat) : Int) := by rw [Int.natCast_pow]; rfl
  rw [e1, e2, ← Int.natCast_emod, ← Int.natCast_mul, ← Int.natCast_ediv]
  generalize y % 2 ^ s * 2 ^ (24 - s) = Y at *
  generalize x / 2 ^ s = X at *
  unfold wrap64
  omega

theorem digit_last {x s : Nat} : (x : Int) / 2 ^ s = ((x / 2 ^ s : Nat) : Int) := by
  have e2 : (2 : Int) ^ s = ((2 ^ s : Nat) : Int) := by rw [Int.natCast_pow]; rfl
  rw [e2, ← Int.natCast_ediv]

set_option maxHeartbeats 4000000 in
set_option maxRecDepth 100000 in
theorem down_dig (l : List Nat) (k : Nat) (va : Value) (w : World) (ha : Dig w va l) (hla : l.length ≤ 1000000) (hk : k ≤ 1000000) :
    Calls Tryz.prog 162 #[va, .int .i64 (k : Int)] w fun e w' => ∃ v, e = .returned (.tuple #[v, .bool (decide (nval l % 2 ^ k = 0))]) ∧ NatV w' v (nval l / 2 ^ k) ∧ Below w.heap.size w w' := by
  have HD : Hid (∀ d ∈ l, d < 16777216) := ha.1
  obtain ⟨ao, ca, rfl, hca, hcell⟩ := Dig.open ha
  have HC : Hid (l.length = 0 ∨ ∃ b off, ao = some ⟨b, off, none⟩ ∧ b < w.heap.size ∧ ∀ i, i < l.length → w.cell? ⟨b, off + i, none⟩ = some (.int .i64 (l.getD i 0 : Nat))) := hcell
  clear ha hcell
  obtain ⟨i0, hi, hz0, hz1, hz2⟩ := info_parts infoInt
  go_enter Tryz.func162, Tryz.ntmps162
  go_wp2
  go_loop [6, 7] (fun v6 v7 => ∃ i : Nat, i ≤ l.length ∧ i ≤ k / 24 ∧ v7 = .int .i64 (i : Int) ∧ v6 = .bool (zeros l i)) (fun _ v7 => l.length - (intOf v7).toNat)
  case atStart => exact ⟨0, by omega, by omega, rfl, by simp [zeros, nval]⟩
  case round =>
    obtain ⟨i, hil, hik, rfl, rfl⟩ := hrel
    by_cases hgo : i < k / 24 ∧ i < l.length
    · obtain ⟨g1, g2⟩ := hgo
      obtain ⟨b, off, rfl, hb, hc⟩ := HC.out.resolve_left (by omega)
      have c1 := hc i g2
      clear hc
      have hzs : Hid (zeros l (i + 1) = (zeros l i && decide (l.getD i 0 = 0))) := zeros_succ l i
      have hdl : l.getD i 0 < 16777216 := getD_lt HD.out i
      generalize hd : l.getD i 0 = d at *
      clear hd
      cases hz : zeros l i
      · rw [hz] at hzs
        go_wp2
        go_round
        case rel => exact ⟨i + 1, by omega, by omega, by go_num, by rw [hzs.out]; rfl⟩
        case measure => simp [intOf]; omega
      · rw [hz] at hzs
        by_cases hd0 : d = 0
        · subst hd0
          go_wp2
          go_round
          case rel => exact ⟨i + 1, by omega, by omega, by go_num, by rw [hzs.out]; rfl⟩
          case measure => simp [intOf]; omega
        · have t1 : ((d : Int) == 0) = false := by simp; omega
          go_wp2
          go_round
          case rel => exact ⟨i + 1, by omega, by omega, by go_num, by rw [hzs.out]; simp [hd0]⟩
          case measure => simp [intOf]; omega
    · by_cases hq : l.length ≤ k / 24
      · have hie : i = l.length := by omega
        subst hie
        have hds := down_small l k HD.out hq
        have HDS : Hid (nval l / 2 ^ k = 0 ∧ (nval l % 2 ^ k = 0 ↔ nval l = 0)) := hds
        clear hds
        have hzz : zeros l l.length = decide (nval l % 2 ^ k = 0) := by
          unfold zeros
          rw [List.take_of_length_le (Nat.le_refl _), decide_eq_decide, HDS.out.2]
        rw [hzz]
        have fin : NatV w (.slice none 0 0) (nval l / 2 ^ k) := by rw [HDS.out.1]; exact ⟨by simp [digits_zero], Or.inl ⟨rfl, rfl⟩⟩
        have FIN : Hid (NatV w (.slice none 0 0) (nval l / 2 ^ k)) := fin
        clear fin hzz HDS hgo
        by_cases hlt : l.length < k / 24
        all_goals
          go_wp2
          go_ret2
          exact ⟨.slice none 0 0, rfl, FIN.out, Below.refl _ _⟩
      · have hie : i = k / 24 := by omega
        subst hie
        have hql : k / 24 < l.length := by omega
        obtain ⟨b, off, rfl, hb, hc⟩ := HC.out.resolve_left (by omega)
        have c1 := hc (k / 24) hql
        have HC : Hid (∀ i, i < l.length → w.cell? ⟨b, off + i, none⟩ = some (.int .i64 (l.getD i 0 : Nat))) := hc
        have hsh := wrap_pow24 k
        have hpb := pow24 (Nat.mod_lt k (by decide : 0 < 24))
        have hpp : 0 < 2 ^ (k % 24) := Nat.two_pow_pos _
        have hdl : l.getD (k / 24) 0 < 16777216 := getD_lt HD.out _
        have hdv := down_val l k HD.out (by omega)
        have hhead : (l.drop (k / 24)).headD 0 = l.getD (k / 24) 0 := by
          rw [List.drop_eq_getElem_cons hql]; simp [List.getD, List.getElem?_eq_getElem hql]
        rw [nval_mod (Nat.mod_lt k (by decide : 0 < 24)), hhead] at hdv
        have HV : Hid (nval l / 2 ^ k = nval (l.drop (k / 24)) / 2 ^ (k % 24)) := hdv.1
        have HZ : Hid (decide (nval l % 2 ^ k = 0) = (zeros l (k / 24) && decide (l.getD (k / 24) 0 % 2 ^ (k % 24) = 0))) := by
          show _ = _
          unfold zeros
          rw [Bool.eq_iff_iff]
          simp only [decide_eq_true_eq, Bool.and_eq_true]
          exact hdv.2
        clear hc hdv hhead hgo
        generalize hd : l.getD (k / 24) 0 = d at *
        generalize hpe : (2 ^ (k % 24) : Nat) = p at *
        have HPE : Hid (2 ^ (k % 24) = p) := hpe
        clear hd hpe
        have three : (zeros l (k / 24) = false ∧ Hid (decide (nval l % 2 ^ k = 0) = false)) ∨ (zeros l (k / 24) = true ∧ d % p = 0 ∧ Hid (decide (nval l % 2 ^ k = 0) = true)) ∨ (zeros l (k / 24) = true ∧ d % p ≠ 0 ∧ Hid (decide (nval l % 2 ^ k = 0) = false)) := by
          have := HZ.out
          cases hz : zeros l (k / 24)
          · left; exact ⟨rfl, by show _ = _; rw [this, hz]; rfl⟩
          · right
            by_cases hdp : d % p = 0
            · left; exact ⟨rfl, hdp, by show _ = _; rw [this, hz]; simp [hdp]⟩
            · right; exact ⟨rfl, hdp, by show _ = _; rw [this, hz]; simp [hdp]⟩
        clear HZ
        rcases three with ⟨hz, hres⟩ | ⟨hz, hdp, hres⟩ | ⟨hz, hdp, hres⟩
        · go_wp2_with fail
          go_quiet (fail)
          go_wp2
          clear c1 hz hdl
          go_loopw [8, 10] (fun v8 v10 wr => ∃ j : Nat, k / 24 + j ≤ l.length ∧ v10 = .int .i64 ((k / 24 + j : Nat) : Int) ∧ wr.ownsRow w.heap.size 3 1 v8 ((shrL (k % 24) (l.drop (k / 24))).take j).length (((shrL (k % 24) (l.drop (k / 24))).take j).map dv) ∧ Below w.heap.size w wr) (fun _ v10 _ => l.length - (intOf v10).toNat)
          case atStart => exact ⟨0, by omega, by go_num, World.ownsRow_nil _ _ _ _, below_drewN (Below.refl _ _) _⟩
          case round =>
            obtain ⟨j, hjl, rfl, hown, hbr⟩ := hrel
            by_cases hj : k / 24 + j < l.length
            · have ca1 := (hbr.cell (p := ⟨b, off + (k / 24 + j), none⟩) hb).trans (HC.out (k / 24 + j) hj)
              have ha1 : l.getD (k / 24 + j) 0 < 16777216 := getD_lt HD.out _
              have HLJ : Hid (((shrL (k % 24) (l.drop (k / 24))).take j).length ≤ 1000000) := by
                show _ ≤ _
                rw [List.length_take, shrL_length]; simp; omega
              have HG : Hid ((shrL (k % 24) (l.drop (k / 24))).getD j 0 = l.getD (k / 24 + j) 0 / 2 ^ (k % 24) + l.getD (k / 24 + j + 1) 0 % 2 ^ (k % 24) * 2 ^ (24 - k % 24)) := by
                show _ = _
                rw [shrL_getD _ _ _ (by simp; omega)]
                have e1 : (l.drop (k / 24)).getD j 0 = l.getD (k / 24 + j) 0 := by simp [List.getD]
                have e2 : (l.drop (k / 24)).getD (j + 1) 0 = l.getD (k / 24 + j + 1) 0 := by simp [List.getD, Nat.add_assoc]
                rw [e1, e2]
              have HTK : Hid ((shrL (k % 24) (l.drop (k / 24))).take j ++ [(shrL (k % 24) (l.drop (k / 24))).getD j 0] = (shrL (k % 24) (l.drop (k / 24))).take (j + 1)) := (take_snoc_getD _ j (by rw [shrL_length]; simp; omega)).symm
              generalize hD : (shrL (k % 24) (l.drop (k / 24))).getD j 0 = D at *
              generalize hT : (shrL (k % 24) (l.drop (k / 24))).take j = T at *
              clear hD hT
              by_cases hj2 : k / 24 + j + 1 < l.length
              · have ca2 := (hbr.cell (p := ⟨b, off + (k / 24 + j + 1), none⟩) hb).trans (HC.out (k / 24 + j + 1) hj2)
                have ha2 : l.getD (k / 24 + j + 1) 0 < 16777216 := getD_lt HD.out _
                generalize l.getD (k / 24 + j) 0 = x at *
                generalize l.getD (k / 24 + j + 1) 0 = y at *
                have HWD : Hid (wrap64 ((x : Int) / 2 ^ (k % 24) + wrap64 ((y : Int) % (p : Int) * 2 ^ (24 - k % 24))) = (D : Int)) := by
                  show _ = _
                  rw [wrap_digit (Nat.mod_lt k (by decide : 0 < 24)) ha1 HPE.out, HG.out]
                go_wp2_with fail
                go_quiet (fail)
                rw [HWD.out]
                clear ca1 ca2 HWD HG
                go_wp2_with (first
                  | (at_builtin; refine wpList_append_own _ rfl _ _ 40 rfl w.heap.size 3 i0 (.int .i64 0) 1 8 Tryz.underlying40 hi hz0 hz1 hz2 rfl (by decide) _ _ _ rfl ((show World.ownsRow (wr.drewN nq) _ _ _ _ _ _ from hown).alloc _) ⟨wr.heap.size, 0, none⟩ 1 1 [.int .i64 (D : Int)] rfl rfl ?pa1 ?pa2 ?pa3 ?pa4 ?pa5 ?_)
                  | go_in)
                case pa1 =>
                  intro j' u hj'
                  match j', hj' with
                  | 0, hj' =>
                    simp at hj'; subst hj'
                    simp only [Addr.add, if_true]
                    exact (cell_of_cur (b := wr.heap.size) (heap_alloc_new (wr.drewN nq) _) 0).trans rfl
                case pa2 => intro u hu; simp at hu; subst hu; rfl
                case pa3 => unfold maxLen; have := HLJ.out; omega
                case pa4 => have := HLJ.out; omega
                case pa5 => have := hbr.size; simp; omega
                · intro v' w1 hown' hgrow _
                  have R := push_step (show World.ownsRow (wr.drewN nq) _ _ _ _ _ _ from hown) (below_drewN hbr nq) (Nat.le_refl _) hown' (d := D) rfl hgrow
                  rw [HTK.out] at R
                  clear hown' hgrow hown hbr
                  go_wp2
                  go_roundw
                  case rel => exact ⟨j + 1, by omega, by go_num, R.1, R.2⟩
                  case measure => simp [intOf]; omega
              · have hy0 : l.getD (k / 24 + j + 1) 0 = 0 := by simp [List.getD, List.getElem?_eq_none (Nat.le_of_not_lt hj2)]
                rw [hy0] at HG
                clear hy0
                generalize l.getD (k / 24 + j) 0 = x at *
                have HWD : (x : Int) / 2 ^ (k % 24) = (D : Int) := by
                  rw [digit_last, HG.out]; simp
                clear HG
                go_wp2_with (first
                  | (at_builtin; refine wpList_append_own _ rfl _ _ 40 rfl w.heap.size 3 i0 (.int .i64 0) 1 8 Tryz.underlying40 hi hz0 hz1 hz2 rfl (by decide) _ _ _ rfl ((show World.ownsRow wr _ _ _ _ _ _ from hown).alloc _) ⟨wr.heap.size, 0, none⟩ 1 1 [.int .i64 (D : Int)] rfl rfl ?pb1 ?pb2 ?pb3 ?pb4 ?pb5 ?_)
                  | go_in)
                case pb1 =>
                  intro j' u hj'
                  match j', hj' with
                  | 0, hj' => simp at hj'; subst hj'; simp [Addr.add]
                case pb2 => intro u hu; simp at hu; subst hu; rfl
                case pb3 => unfold maxLen; have := HLJ.out; omega
                case pb4 => have := HLJ.out; omega
                case pb5 => have := hbr.size; simp; omega
                · intro v' w1 hown' hgrow _
                  have R := push_step (show World.ownsRow wr _ _ _ _ _ _ from hown) hbr (Nat.le_refl _) hown' (d := D) rfl hgrow
                  rw [HTK.out] at R
                  clear hown' hgrow hown hbr
                  go_wp2
                  go_roundw
                  case rel => exact ⟨j + 1, by omega, by go_num, R.1, R.2⟩
                  case measure => simp [intOf]; omega
            · have hje : k / 24 + j = l.length := by omega
              have hfull : (shrL (k % 24) (l.drop (k / 24))).take j = shrL (k % 24) (l.drop (k / 24)) := List.take_of_length_le (by rw [shrL_length]; simp; omega)
              rw [hfull] at hown
              have hdd := shrL_lt (Nat.mod_lt k (by decide : 0 < 24)) (l.drop (k / 24)) (fun d hd => HD.out d (List.mem_of_mem_drop hd))
              have hlen : Hid ((shrL (k % 24) (l.drop (k / 24))).length ≤ 2000000) := by show _ ≤ _; rw [shrL_length]; simp; omega
              have HDG := Dig.of_owns hown hdd
              have HDG : Hid (Dig wr _ (shrL (k % 24) (l.drop (k / 24)))) := HDG
              have HNV : Hid (nval (shrL (k % 24) (l.drop (k / 24))) = nval l / 2 ^ k) := by
                show _ = _
                rw [nval_shrL (Nat.mod_lt k (by decide : 0 < 24)), HPE.out, HV.out]
              clear hown hdd hfull hje
              go_wp2_with fail
              refine (trim_any _ _ _ HDG.out hlen.out).mono ?_
              rintro e w' ⟨v', rfl, hN, rfl⟩
              rw [HNV.out] at hN
              have HN : Hid (NatV w' v' _) := hN
              clear hN HDG
              go_wp2_with fail
              go_ret2
              rw [hres.out]
              exact ⟨_, rfl, HN.out, hbr⟩
        · have t1 : ((d : Int) % (p : Int) == 0) = true := by rw [beq_iff_eq]; omega
          clear hdp
          go_wp2_with fail
          go_quiet (fail)
          go_wp2
          clear t1
          rw [hsh]
          clear c1 hz hdl
          go_loopw [8, 10] (fun v8 v10 wr => ∃ j : Nat, k / 24 + j ≤ l.length ∧ v10 = .int .i64 ((k / 24 + j : Nat) : Int) ∧ wr.ownsRow w.heap.size 3 1 v8 ((shrL (k % 24) (l.drop (k / 24))).take j).length (((shrL (k % 24) (l.drop (k / 24))).take j).map dv) ∧ Below w.heap.size w wr) (fun _ v10 _ => l.length - (intOf v10).toNat)
          case atStart => exact ⟨0, by omega, by go_num, World.ownsRow_nil _ _ _ _, below_drewN (Below.refl _ _) _⟩
          case round =>
            obtain ⟨j, hjl, rfl, hown, hbr⟩ := hrel
            by_cases hj : k / 24 + j < l.length
            · have ca1 := (hbr.cell (p := ⟨b, off + (k / 24 + j), none⟩) hb).trans (HC.out (k / 24 + j) hj)
              have ha1 : l.getD (k / 24 + j) 0 < 16777216 := getD_lt HD.out _
              have HLJ : Hid (((shrL (k % 24) (l.drop (k / 24))).take j).length ≤ 1000000) := by
                show _ ≤ _
                rw [List.length_take, shrL_length]; simp; omega
              have HG : Hid ((shrL (k % 24) (l.drop (k / 24))).getD j 0 = l.getD (k / 24 + j) 0 / 2 ^ (k % 24) + l.getD (k / 24 + j + 1) 0 % 2 ^ (k % 24) * 2 ^ (24 - k % 24)) := by
                show _ = _
                rw [shrL_getD _ _ _ (by simp; omega)]
                have e1 : (l.drop (k / 24)).getD j 0 = l.getD (k / 24 + j) 0 := by simp [List.getD]
                have e2 : (l.drop (k / 24)).getD (j + 1) 0 = l.getD (k / 24 + j + 1) 0 := by simp [List.getD, Nat.add_assoc]
                rw [e1, e2]
              have HTK : Hid ((shrL (k % 24) (l.drop (k / 24))).take j ++ [(shrL (k % 24) (l.drop (k / 24))).getD j 0] = (shrL (k % 24) (l.drop (k / 24))).take (j + 1)) := (take_snoc_getD _ j (by rw [shrL_length]; simp; omega)).symm
              generalize hD : (shrL (k % 24) (l.drop (k / 24))).getD j 0 = D at *
              generalize hT : (shrL (k % 24) (l.drop (k / 24))).take j = T at *
              clear hD hT
              by_cases hj2 : k / 24 + j + 1 < l.length
              · have ca2 := (hbr.cell (p := ⟨b, off + (k / 24 + j + 1), none⟩) hb).trans (HC.out (k / 24 + j + 1) hj2)
                have ha2 : l.getD (k / 24 + j + 1) 0 < 16777216 := getD_lt HD.out _
                generalize l.getD (k / 24 + j) 0 = x at *
                generalize l.getD (k / 24 + j + 1) 0 = y at *
                have HWD : Hid (wrap64 ((x : Int) / 2 ^ (k % 24) + wrap64 ((y : Int) % (p : Int) * 2 ^ (24 - k % 24))) = (D : Int)) := by
                  show _ = _
                  rw [wrap_digit (Nat.mod_lt k (by decide : 0 < 24)) ha1 HPE.out, HG.out]
                go_wp2_with fail
                go_quiet (fail)
                rw [HWD.out]
                clear ca1 ca2 HWD HG
                go_wp2_with (first
                  | (at_builtin; refine wpList_append_own _ rfl _ _ 40 rfl w.heap.size 3 i0 (.int .i64 0) 1 8 Tryz.underlying40 hi hz0 hz1 hz2 rfl (by decide) _ _ _ rfl ((show World.ownsRow (wr.drewN nq) _ _ _ _ _ _ from hown).alloc _) ⟨wr.heap.size, 0, none⟩ 1 1 [.int .i64 (D : Int)] rfl rfl ?qa1 ?qa2 ?qa3 ?qa4 ?qa5 ?_)
                  | go_in)
                case qa1 =>
                  intro j' u hj'
                  match j', hj' with
                  | 0, hj' =>
                    simp at hj'; subst hj'
                    simp only [Addr.add, if_true]
                    exact (cell_of_cur (b := wr.heap.size) (heap_alloc_new (wr.drewN nq) _) 0).trans rfl
                case qa2 => intro u hu; simp at hu; subst hu; rfl
                case qa3 => unfold maxLen; have := HLJ.out; omega
                case qa4 => have := HLJ.out; omega
                case qa5 => have := hbr.size; simp; omega
                · intro v' w1 hown' hgrow _
                  have R := push_step (show World.ownsRow (wr.drewN nq) _ _ _ _ _ _ from hown) (below_drewN hbr nq) (Nat.le_refl _) hown' (d := D) rfl hgrow
                  rw [HTK.out] at R
                  clear hown' hgrow hown hbr
                  go_wp2
                  go_roundw
                  case rel => exact ⟨j + 1, by omega, by go_num, R.1, R.2⟩
                  case measure => simp [intOf]; omega
              · have hy0 : l.getD (k / 24 + j + 1) 0 = 0 := by simp [List.getD, List.getElem?_eq_none (Nat.le_of_not_lt hj2)]
                rw [hy0] at HG
                clear hy0
                generalize l.getD (k / 24 + j) 0 = x at *
                have HWD : (x : Int) / 2 ^ (k % 24) = (D : Int) := by
                  rw [digit_last, HG.out]; simp
                clear HG
                go_wp2_with (first
                  | (at_builtin; refine wpList_append_own _ rfl _ _ 40 rfl w.heap.size 3 i0 (.int .i64 0) 1 8 Tryz.underlying40 hi hz0 hz1 hz2 rfl (by decide) _ _ _ rfl ((show World.ownsRow wr _ _ _ _ _ _ from hown).alloc _) ⟨wr.heap.size, 0, none⟩ 1 1 [.int .i64 (D : Int)] rfl rfl ?qb1 ?qb2 ?qb3 ?qb4 ?qb5 ?_)
                  | go_in)
                case qb1 =>
                  intro j' u hj'
                  match j', hj' with
                  | 0, hj' => simp at hj'; subst hj'; simp [Addr.add]
                case qb2 => intro u hu; simp at hu; subst hu; rfl
                case qb3 => unfold maxLen; have := HLJ.out; omega
                case qb4 => have := HLJ.out; omega
                case qb5 => have := hbr.size; simp; omega
                · intro v' w1 hown' hgrow _
                  have R := push_step (show World.ownsRow wr _ _ _ _ _ _ from hown) hbr (Nat.le_refl _) hown' (d := D) rfl hgrow
                  rw [HTK.out] at R
                  clear hown' hgrow hown hbr
                  go_wp2
                  go_roundw
                  case rel => exact ⟨j + 1, by omega, by go_num, R.1, R.2⟩
                  case measure => simp [intOf]; omega
            · have hje : k / 24 + j = l.length := by omega
              have hfull : (shrL (k % 24) (l.drop (k / 24))).take j = shrL (k % 24) (l.drop (k / 24)) := List.take_of_length_le (by rw [shrL_length]; simp; omega)
              rw [hfull] at hown
              have hdd := shrL_lt (Nat.mod_lt k (by decide : 0 < 24)) (l.drop (k / 24)) (fun d hd => HD.out d (List.mem_of_mem_drop hd))
              have hlen : Hid ((shrL (k % 24) (l.drop (k / 24))).length ≤ 2000000) := by show _ ≤ _; rw [shrL_length]; simp; omega
              have HDG := Dig.of_owns hown hdd
              have HDG : Hid (Dig wr _ (shrL (k % 24) (l.drop (k / 24)))) := HDG
              have HNV : Hid (nval (shrL (k % 24) (l.drop (k / 24))) = nval l / 2 ^ k) := by
                show _ = _
                rw [nval_shrL (Nat.mod_lt k (by decide : 0 < 24)), HPE.out, HV.out]
              clear hown hdd hfull hje
              go_wp2_with fail
              refine (trim_any _ _ _ HDG.out hlen.out).mono ?_
              rintro e w' ⟨v', rfl, hN, rfl⟩
              rw [HNV.out] at hN
              have HN : Hid (NatV w' v' _) := hN
              clear hN HDG
              go_wp2_with fail
              go_ret2
              rw [hres.out]
              exact ⟨_, rfl, HN.out, hbr⟩
        · have t1 : ((d : Int) % (p : Int) == 0) = false := by rw [beq_eq_false_iff_ne]; omega
          clear hdp
          go_wp2_with fail
          go_quiet (fail)
          go_wp2
          clear t1
          rw [hsh]
          clear c1 hz hdl
          go_loopw [8, 10] (fun v8 v10 wr => ∃ j : Nat, k / 24 + j ≤ l.length ∧ v10 = .int .i64 ((k / 24 + j : Nat) : Int) ∧ wr.ownsRow w.heap.size 3 1 v8 ((shrL (k % 24) (l.drop (k / 24))).take j).length (((shrL (k % 24) (l.drop (k / 24))).take j).map dv) ∧ Below w.heap.size w wr) (fun _ v10 _ => l.length - (intOf v10).toNat)
          case atStart => exact ⟨0, by omega, by go_num, World.ownsRow_nil _ _ _ _, below_drewN (Below.refl _ _) _⟩
          case round =>
            obtain ⟨j, hjl, rfl, hown, hbr⟩ := hrel
            by_cases hj : k / 24 + j < l.length
            · have ca1 := (hbr.cell (p := ⟨b, off + (k / 24 + j), none⟩) hb).trans (HC.out (k / 24 + j) hj)
              have ha1 : l.getD (k / 24 + j) 0 < 16777216 := getD_lt HD.out _
              have HLJ : Hid (((shrL (k % 24) (l.drop (k / 24))).take j).length ≤ 1000000) := by
                show _ ≤ _
                rw [List.length_take, shrL_length]; simp; omega
              have HG : Hid ((shrL (k % 24) (l.drop (k / 24))).getD j 0 = l.getD (k / 24 + j) 0 / 2 ^ (k % 24) + l.getD (k / 24 + j + 1) 0 % 2 ^ (k % 24) * 2 ^ (24 - k % 24)) := by
                show _ = _
                rw [shrL_getD _ _ _ (by simp; omega)]
                have e1 : (l.drop (k / 24)).getD j 0 = l.getD (k / 24 + j) 0 := by simp [List.getD]
                have e2 : (l.drop (k / 24)).getD (j + 1) 0 = l.getD (k / 24 + j + 1) 0 := by simp [List.getD, Nat.add_assoc]
                rw [e1, e2]
              have HTK : Hid ((shrL (k % 24) (l.drop (k / 24))).take j ++ [(shrL (k % 24) (l.drop (k / 24))).getD j 0] = (shrL (k % 24) (l.drop (k / 24))).take (j + 1)) := (take_snoc_getD _ j (by rw [shrL_length]; simp; omega)).symm
              generalize hD : (shrL (k % 24) (l.drop (k / 24))).getD j 0 = D at *
              generalize hT : (shrL (k % 24) (l.drop (k / 24))).take j = T at *
              clear hD hT
              by_cases hj2 : k / 24 + j + 1 < l.length
              · have ca2 := (hbr.cell (p := ⟨b, off + (k / 24 + j + 1), none⟩) hb).trans (HC.out (k / 24 + j + 1) hj2)
                have ha2 : l.getD (k / 24 + j + 1) 0 < 16777216 := getD_lt HD.out _
                generalize l.getD (k / 24 + j) 0 = x at *
                generalize l.getD (k / 24 + j + 1) 0 = y at *
                have HWD : Hid (wrap64 ((x : Int) / 2 ^ (k % 24) + wrap64 ((y : Int) % (p : Int) * 2 ^ (24 - k % 24))) = (D : Int)) := by
                  show _ = _
                  rw [wrap_digit (Nat.mod_lt k (by decide : 0 < 24)) ha1 HPE.out, HG.out]
                go_wp2_with fail
                go_quiet (fail)
                rw [HWD.out]
                clear ca1 ca2 HWD HG
                go_wp2_with (first
                  | (at_builtin; refine wpList_append_own _ rfl _ _ 40 rfl w.heap.size 3 i0 (.int .i64 0) 1 8 Tryz.underlying40 hi hz0 hz1 hz2 rfl (by decide) _ _ _ rfl ((show World.ownsRow (wr.drewN nq) _ _ _ _ _ _ from hown).alloc _) ⟨wr.heap.size, 0, none⟩ 1 1 [.int .i64 (D : Int)] rfl rfl ?ra1 ?ra2 ?ra3 ?ra4 ?ra5 ?_)
                  | go_in)
                case ra1 =>
                  intro j' u hj'
                  match j', hj' with
                  | 0, hj' =>
                    simp at hj'; subst hj'
                    simp only [Addr.add, if_true]
                    exact (cell_of_cur (b := wr.heap.size) (heap_alloc_new (wr.drewN nq) _) 0).trans rfl
                case ra2 => intro u hu; simp at hu; subst hu; rfl
                case ra3 => unfold maxLen; have := HLJ.out; omega
                case ra4 => have := HLJ.out; omega
                case ra5 => have := hbr.size; simp; omega
                · intro v' w1 hown' hgrow _
                  have R := push_step (show World.ownsRow (wr.drewN nq) _ _ _ _ _ _ from hown) (below_drewN hbr nq) (Nat.le_refl _) hown' (d := D) rfl hgrow
                  rw [HTK.out] at R
                  clear hown' hgrow hown hbr
                  go_wp2
                  go_roundw
                  case rel => exact ⟨j + 1, by omega, by go_num, R.1, R.2⟩
                  case measure => simp [intOf]; omega
              · have hy0 : l.getD (k / 24 + j + 1) 0 = 0 := by simp [List.getD, List.getElem?_eq_none (Nat.le_of_not_lt hj2)]
                rw [hy0] at HG
                clear hy0
                generalize l.getD (k / 24 + j) 0 = x at *
                have HWD : (x : Int) / 2 ^ (k % 24) = (D : Int) := by
                  rw [digit_last, HG.out]; simp
                clear HG
                go_wp2_with (first
                  | (at_builtin; refine wpList_append_own _ rfl _ _ 40 rfl w.heap.size 3 i0 (.int .i64 0) 1 8 Tryz.underlying40 hi hz0 hz1 hz2 rfl (by decide) _ _ _ rfl ((show World.ownsRow wr _ _ _ _ _ _ from hown).alloc _) ⟨wr.heap.size, 0, none⟩ 1 1 [.int .i64 (D : Int)] rfl rfl ?rb1 ?rb2 ?rb3 ?rb4 ?rb5 ?_)
                  | go_in)
                case rb1 =>
                  intro j' u hj'
                  match j', hj' with
                  | 0, hj' => simp at hj'; subst hj'; simp [Addr.add]
                case rb2 => intro u hu; simp at hu; subst hu; rfl
                case rb3 => unfold maxLen; have := HLJ.out; omega
                case rb4 => have := HLJ.out; omega
                case rb5 => have := hbr.size; simp; omega
                · intro v' w1 hown' hgrow _
                  have R := push_step (show World.ownsRow wr _ _ _ _ _ _ from hown) hbr (Nat.le_refl _) hown' (d := D) rfl hgrow
                  rw [HTK.out] at R
                  clear hown' hgrow hown hbr
                  go_wp2
                  go_roundw
                  case rel => exact ⟨j + 1, by omega, by go_num, R.1, R.2⟩
                  case measure => simp [intOf]; omega
            · have hje : k / 24 + j = l.length := by omega
              have hfull : (shrL (k % 24) (l.drop (k / 24))).take j = shrL (k % 24) (l.drop (k / 24)) := List.take_of_length_le (by rw [shrL_length]; simp; omega)
              rw [hfull] at hown
              have hdd := shrL_lt (Nat.mod_lt k (by decide : 0 < 24)) (l.drop (k / 24)) (fun d hd => HD.out d (List.mem_of_mem_drop hd))
              have hlen : Hid ((shrL (k % 24) (l.drop (k / 24))).length ≤ 2000000) := by show _ ≤ _; rw [shrL_length]; simp; omega
              have HDG := Dig.of_owns hown hdd
              have HDG : Hid (Dig wr _ (shrL (k % 24) (l.drop (k / 24)))) := HDG
              have HNV : Hid (nval (shrL (k % 24) (l.drop (k / 24))) = nval l / 2 ^ k) := by
                show _ = _
                rw [nval_shrL (Nat.mod_lt k (by decide : 0 < 24)), HPE.out, HV.out]
              clear hown hdd hfull hje
              go_wp2_with fail
              refine (trim_any _ _ _ HDG.out hlen.out).mono ?_
              rintro e w' ⟨v', rfl, hN, rfl⟩
              rw [HNV.out] at hN
              have HN : Hid (NatV w' v' _) := hN
              clear hN HDG
              go_wp2_with fail
              go_ret2
              rw [hres.out]
              exact ⟨_, rfl, HN.out, hbr⟩

theorem down_any (a k : Nat) (va : Value) (w : World) (ha : NatV w va a) (hla : (digits a).length ≤ 1000000) (hk : k ≤ 1000000) :
    Calls Tryz.prog 162 #[va, .int .i64 (k : Int)] w fun e w' => ∃ v, e = .returned (.tuple #[v, .bool (decide (a % 2 ^ k = 0))]) ∧ NatV w' v (a / 2 ^ k) ∧ Below w.heap.size w w' := by
  have := down_dig _ k va w ha hla hk
  rwa [nval_digits] at this
end Go.Proofs.YtonhpkigoplmaaaGreatDoor
namespace Go.Proofs.YtonhpkigoplmaaaGreatDoor
open Go.RowKit

/-- A number of 53 bits as a float. -/
def packN (s : Bool) (m : Nat) (e : Int) : Nat × Bool :=
  if e + 1075 < 123 ∨ 1923 < e + 1075 ∨ (e + 1075 = 1923 ∧ 4503599627370496 < m) then (0, false)
  else (m - 4503599627370496 + (e + 1075).toNat * 4503599627370496 + (if s then 9223372036854775808 else 0), true)

theorem three_digits {m : Nat} (h1 : 4503599627370496 ≤ m) (h2 : m < 9007199254740992) :
    ∃ m0 m1 m2, digits m = [m0, m1, m2] ∧ m = m0 + 16777216 * m1 + 281474976710656 * m2 ∧ m0 < 16777216 ∧ m1 < 16777216 ∧ m2 < 32 := by
  refine ⟨m % 16777216, m / 16777216 % 16777216, m / 281474976710656, ?_, by omega, by omega, by omega, by omega⟩
  have h := digits_of [m % 16777216, m / 16777216 % 16777216, m / 281474976710656] (by
    intro d hd
    simp at hd
    rcases hd with rfl | rfl | rfl <;> omega) (by simp [Canon]; omega)
  have e : nval [m % 16777216, m / 16777216 % 16777216, m / 281474976710656] = m := by simp only [nval]; omega
  rw [e] at h
  exact h

theorem ret_ub {a b : Int} {x y : Bool} (h1 : a = b) (h2 : x = y) : Ending.returned (.tuple #[.int .u64 a, .bool x]) = .returned (.tuple #[.int .u64 b, .bool y]) := by rw [h1, h2]

theorem pack_int {m m0 m1 m2 z : Nat} {e : Int} (hm : m = m0 + 16777216 * m1 + 281474976710656 * m2) (h1 : 4503599627370496 ≤ m) (he : 0 ≤ e + 1075) :
    (m0 : Int) + m1 * 16777216 + m2 * 16777216 * 16777216 - 4503599627370496 + (e + 1075) * 4503599627370496 + (z : Int) = ((m - 4503599627370496 + (e + 1075).toNat * 4503599627370496 + z : Nat) : Int) := by
  have e1 : ((m - 4503599627370496 : Nat) : Int) = (m : Int) - 4503599627370496 := by omega
  have e2 : (((e + 1075).toNat : Nat) : Int) = e + 1075 := Int.toNat_of_nonneg he
  have e3 : (m : Int) = (m0 : Int) + 16777216 * m1 + 281474976710656 * m2 := by omega
  generalize hk : m - 4503599627370496 = k at *
  generalize ht : (e + 1075).toNat = t at *
  have e4 : ((k + t * 4503599627370496 + z : Nat) : Int) = (k : Int) + (t : Int) * ((4503599627370496 : Nat) : Int) + (z : Int) := by
    rw [Int.natCast_add, Int.natCast_add, Int.natCast_mul]
  rw [e4, e1, e2, e3]
  have e5 : ((4503599627370496 : Nat) : Int) = 4503599627370496 := rfl
  rw [e5]
  generalize (e + 1075) * 4503599627370496 = q
  omega

theorem pack_top {m m0 m1 m2 : Nat} (hm : m = m0 + 16777216 * m1 + 281474976710656 * m2) (h1 : 4503599627370496 ≤ m) :
    (m0 : Int) + m1 * 16777216 + m2 * 16777216 * 16777216 - 4503599627370496 + 8660422083433463808 = ((m - 4503599627370496 + (848 + 1075 : Int).toNat * 4503599627370496 + 0 : Nat) : Int) := by
  have h := pack_int (z := 0) (e := 848) hm h1 (by decide)
  rw [← h, show ((848 : Int) + 1075) * 4503599627370496 = 8660422083433463808 by decide, show ((0 : Nat) : Int) = 0 by rfl, Int.add_zero]

theorem pack_top2 {m m0 m1 m2 : Nat} (hm : m = m0 + 16777216 * m1 + 281474976710656 * m2) (h1 : 4503599627370496 ≤ m) :
    (m0 : Int) + m1 * 16777216 + m2 * 16777216 * 16777216 - 4503599627370496 + 8660422083433463808 + 9223372036854775808 = ((m - 4503599627370496 + (848 + 1075 : Int).toNat * 4503599627370496 + 9223372036854775808 : Nat) : Int) := by
  have h := pack_int (z := 9223372036854775808) (e := 848) hm h1 (by decide)
  rw [← h, show ((848 : Int) + 1075) * 4503599627370496 = 8660422083433463808 by decide, show ((9223372036854775808 : Nat) : Int) = 9223372036854775808 by rfl]

theorem pack_mid {m m0 m1 m2 : Nat} {e : Int} (hm : m = m0 + 16777216 * m1 + 281474976710656 * m2) (h1 : 4503599627370496 ≤ m) (he : 0 ≤ e + 1075) :
    (m0 : Int) + m1 * 16777216 + m2 * 16777216 * 16777216 - 4503599627370496 + (e + 1075) * 4503599627370496 = ((m - 4503599627370496 + (e + 1075 : Int).toNat * 4503599627370496 + 0 : Nat) : Int) := by
  have h := pack_int (z := 0) hm h1 he
  rw [← h, show ((0 : Nat) : Int) = 0 by rfl, Int.add_zero]

theorem pack_mid2 {m m0 m1 m2 : Nat} {e : Int} (hm : m = m0 + 16777216 * m1 + 281474976710656 * m2) (h1 : 4503599627370496 ≤ m) (he : 0 ≤ e + 1075) :
    (m0 : Int) + m1 * 16777216 + m2 * 16777216 * 16777216 - 4503599627370496 + (e + 1075) * 4503599627370496 + 9223372036854775808 = ((m - 4503599627370496 + (e + 1075 : Int).toNat * 4503599627370496 + 9223372036854775808 : Nat) : Int) := by
  have h := pack_int (z := 9223372036854775808) hm h1 he
  rw [← h, show ((9223372036854775808 : Nat) : Int) = 9223372036854775808 by rfl]

set_option maxHeartbeats 1000000 in
set_option maxRecDepth 100000 in
theorem packed_any (s : Bool) (m : Nat) (e : Int) (va : Value) (w : World) (ha : NatV w va m) (h1 : 4503599627370496 ≤ m) (h2 : m < 9007199254740992) (he1 : -400000 ≤ e) (he2 : e ≤ 400000) :
    Calls Tryz.prog 163 #[.bool s, va, .int .i64 e] w fun ev w' => ev = .returned (.tuple #[.int .u64 ((packN s m e).1 : Int), .bool (packN s m e).2]) ∧ Below w.heap.size w w' := by
  obtain ⟨m0, m1, m2, hdg, hm, g0, g1, g2⟩ := three_digits h1 h2
  obtain ⟨ao, ca, rfl, hca, hcell⟩ := Dig.open ha
  rw [hdg] at hca hcell ⊢
  obtain ⟨b, off, rfl, hb, hc⟩ := hcell.resolve_left (by simp)
  have c0 := hc 0 (by simp)
  have c1 := hc 1 (by simp)
  have c2 := hc 2 (by simp)
  simp at c0 c1 c2
  have HP : Hid (packN s m e = if e + 1075 < 123 ∨ 1923 < e + 1075 ∨ (e + 1075 = 1923 ∧ 4503599627370496 < m) then (0, false) else (m - 4503599627370496 + (e + 1075).toNat * 4503599627370496 + (if s then 9223372036854775808 else 0), true)) := rfl
  have HM : Hid (m = m0 + 16777216 * m1 + 281474976710656 * m2) := hm
  have hlow : 4503599627370496 ≤ (m0 : Int) + 16777216 * m1 + 281474976710656 * m2 := by omega
  clear hc hcell hdg ha hm
  go_enter Tryz.func163, Tryz.ntmps163
  go_wp2_with fail
  go_quiet (fail)
  rcases (show e + 1075 < 123 ∨ 1923 < e + 1075 ∨ (e + 1075 = 1923 ∧ 4503599627370496 < m) ∨ (e + 1075 = 1923 ∧ ¬ 4503599627370496 < m) ∨ (123 ≤ e + 1075 ∧ e + 1075 < 1923) by omega) with g | g | ⟨g, g'⟩ | ⟨g, g'⟩ | ⟨g, g'⟩
  · have r : Hid (packN s m e = (0, false)) := by show _ = _; rw [HP.out, if_pos (Or.inl g)]
    go_wp2
    go_ret2
    exact ⟨by rw [r.out]; exact ret_ub rfl rfl, below_drewN (Below.refl _ _) _⟩
  · have r : Hid (packN s m e = (0, false)) := by show _ = _; rw [HP.out, if_pos (Or.inr (Or.inl g))]
    go_wp2
    go_ret2
    exact ⟨by rw [r.out]; exact ret_ub rfl rfl, below_drewN (Below.refl _ _) _⟩
  · have r : Hid (packN s m e = (0, false)) := by show _ = _; rw [HP.out, if_pos (Or.inr (Or.inr ⟨g, g'⟩))]
    have hf : (0 : Int) < (m0 : Int) + m1 * 16777216 + m2 * 16777216 * 16777216 - 4503599627370496 := by have := HM.out; omega
    have ge : e = 848 := by omega
    subst ge
    clear g
    go_wp2
    go_ret2
    exact ⟨by rw [r.out]; exact ret_ub rfl rfl, below_drewN (Below.refl _ _) _⟩
  · have r : Hid (packN s m e = (m - 4503599627370496 + (e + 1075).toNat * 4503599627370496 + (if s then 9223372036854775808 else 0), true)) := by show _ = _; rw [HP.out, if_neg (by omega)]
    have hf : (m0 : Int) + m1 * 16777216 + m2 * 16777216 * 16777216 - 4503599627370496 ≤ 0 := by have := HM.out; omega
    have ge : e = 848 := by omega
    subst ge
    clear g
    cases s
    all_goals
      go_wp2
      go_ret2
      refine ⟨?_, below_drewN (Below.refl _ _) _⟩
      rw [r.out]
      refine ret_ub ?_ rfl
      first | (rw [if_neg Bool.false_ne_true]; exact pack_top HM.out h1) | (rw [if_pos trivial]; exact pack_top2 HM.out h1)
  · have r : Hid (packN s m e = (m - 4503599627370496 + (e + 1075).toNat * 4503599627370496 + (if s then 9223372036854775808 else 0), true)) := by show _ = _; rw [HP.out, if_neg (by omega)]
    have t1 : (e + 1075 == 1923) = false := by rw [beq_eq_false_iff_ne]; omega
    cases s
    all_goals
      go_wp2
      go_ret2
      refine ⟨?_, below_drewN (Below.refl _ _) _⟩
      rw [r.out]
      refine ret_ub ?_ rfl
      first | (rw [if_neg Bool.false_ne_true]; exact pack_mid HM.out h1 (by omega)) | (rw [if_pos trivial]; exact pack_mid2 HM.out h1 (by omega))
end Go.Proofs.YtonhpkigoplmaaaGreatDoor
