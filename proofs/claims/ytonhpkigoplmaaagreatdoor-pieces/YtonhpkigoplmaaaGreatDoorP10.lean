/-
  RefQ, OverM, RefO, RefR, RefS, RefT, RefU.
-/
import Derived.Test.YtonhpkigoplmaaaGreatDoorP09
namespace Go.Proofs.YtonhpkigoplmaaaGreatDoor
open Go.RowKit

/-- The number with its mark. -/
def mkN (q : Nat) (whole : Bool) : Nat := q * 2 ^ 1 + (if whole then 0 else 1)

set_option maxHeartbeats 400000 in
set_option maxRecDepth 100000 in
theorem marked_any (s : Bool) (q : Nat) (e : Int) (whole : Bool) (v : Value) (w : World) (hv : NatV w v q) (hl : (digits q).length ≤ 400000) (he1 : -400000 ≤ e) (he2 : e ≤ 400000) :
    Calls Tryz.prog 125 #[.bool s, v, .int .i64 e, .bool whole] w fun ev w' => ∃ x, ev = .returned x ∧ NumV w' x (s && decide (mkN q whole ≠ 0)) (mkN q whole) (e - 1) ∧ Below w.heap.size w w' := by
  have he3 : -9223372036854775808 ≤ e - 1 := by omega
  have he4 : e - 1 < 9223372036854775808 := by omega
  go_enter Tryz.func125, Tryz.ntmps125
  go_wp2_with fail
  have B2 := blk_new w (Obj.cells #[.bool false, .slice none 0 0, .int .i64 0] 92)
  have hW : Below w.heap.size w (w.alloc (Obj.cells #[.bool false, .slice none 0 0, .int .i64 0] 92)) := (Below.refl _ _).alloc (Nat.le_refl _) _
  generalize (w.alloc (Obj.cells #[.bool false, .slice none 0 0, .int .i64 0] 92)) = W2 at *
  refine (up_any q 1 _ _ (hv.below hW (Nat.le_refl _)) (by omega) (by omega)).mono ?_
  rintro ev w1 ⟨u, rfl, hu, hb1⟩
  have hW1 : Below w.heap.size w w1 := hW.trans (hb1.mono hW.size)
  have B21 := blk_below B2 hb1
  have hlu : (digits (q * 2 ^ 1)).length ≤ 500000 := Nat.le_trans len_mul_pow (by omega)
  clear hb1 B2 hW hv
  cases whole
  · go_wp2_with fail
    refine (nat_any 1 w1 (by omega)).mono ?_
    rintro ev w2 ⟨o, rfl, ho, hb2⟩
    have hW2 : Below w.heap.size w w2 := hW1.trans (hb2.mono hW1.size)
    have B22 := blk_below B21 hb2
    go_wp2_with fail
    refine (plus_any (q * 2 ^ 1) 1 _ _ w2 (hu.below hb2 (Nat.le_refl _)) ho (by omega) (by decide)).mono ?_
    rintro ev w3 ⟨v3, rfl, hv3, hb3⟩
    have hbA : Below w.heap.size w w3 := hW2.trans (hb3.mono hW2.size)
    have HB2 : Hid (w3.heap[w.heap.size]? = _) := blk_below B22 hb3
    clear hb2 hb3 hW2 hW1 B21 B22 hu ho
    obtain ⟨vo, vl, vc, rfl, hvl⟩ := hv3.slice2
    have hn : mkN q false = q * 2 ^ 1 + 1 := rfl
    rw [← hn] at hv3 hvl
    have fin : Hid (∀ b : Bool, b = (s && decide (mkN q false ≠ 0)) → ∃ x, Ending.returned (.agg #[.bool b, .slice vo vl vc, .int .i64 (e - 1)]) = .returned x ∧ NumV (((w3.setCell ⟨w.heap.size, 0, none⟩ (.bool b)).setCell ⟨w.heap.size, 1, none⟩ (.slice vo vl vc)).setCell ⟨w.heap.size, 2, none⟩ (.int .i64 (e - 1))) x (s && decide (mkN q false ≠ 0)) (mkN q false) (e - 1) ∧ Below w.heap.size w (((w3.setCell ⟨w.heap.size, 0, none⟩ (.bool b)).setCell ⟨w.heap.size, 1, none⟩ (.slice vo vl vc)).setCell ⟨w.heap.size, 2, none⟩ (.int .i64 (e - 1)))) := by
      intro b hb
      have hbx : BoxT w3 w.heap.size 92 := BoxT.of HB2.out
      have K : Keeps w3 (((w3.setCell ⟨w.heap.size, 0, none⟩ (.bool b)).setCell ⟨w.heap.size, 1, none⟩ (.slice vo vl vc)).setCell ⟨w.heap.size, 2, none⟩ (.int .i64 (e - 1))) := (((Keeps.refl w3).set hbx (by decide)).set hbx.set (by decide)).set hbx.set.set (by decide)
      refine ⟨_, rfl, ?_, ((hbA.setCell (by simp) _).setCell (by simp) _).setCell (by simp) _⟩
      rw [← hb]
      exact ⟨_, _, _, rfl, hvl.out, hv3.keeps K⟩
    have hz : (0 < vl) = (mkN q false ≠ 0) := by
      have h1 := hvl.out
      have h2 := len_zero_iff (mkN q false)
      apply propext
      omega
    obtain ⟨k0, k1, k2, k3, k4, k5⟩ := blk3 HB2.out
    clear hbA hv3 HB2
    cases s
    · go_wp2_with fail
      refine bodyPost_ret (v := .agg #[.bool false, .slice vo vl vc, .int .i64 (e - 1)]) (by simp [results, Tryz.results125, go_sem, k0, k1, k2]) rfl ?_
      exact fin.out false (by rw [Bool.false_and])
    · by_cases h0 : 0 < vl
      · have HE : Hid (true = (true && decide (mkN q false ≠ 0))) := by
          show _ = _
          rw [hz] at h0
          rw [decide_eq_true h0]; rfl
        clear hz
        go_wp2_with fail
        refine bodyPost_ret (v := .agg #[.bool true, .slice vo vl vc, .int .i64 (e - 1)]) (by simp [results, Tryz.results125, go_sem, k0, k1, k2]) rfl ?_
        exact fin.out true HE.out
      · have HE : Hid (false = (true && decide (mkN q false ≠ 0))) := by
          show _ = _
          rw [hz] at h0
          rw [decide_eq_false h0]; rfl
        have h1 : vl = 0 := by omega
        clear hz h0
        subst h1
        go_wp2_with fail
        refine bodyPost_ret (v := .agg #[.bool false, .slice vo 0 vc, .int .i64 (e - 1)]) (by simp [results, Tryz.results125, go_sem, k0, k1, k2]) rfl ?_
        exact fin.out false HE.out
  · have hbA : Below w.heap.size w w1 := hW1
    have HB2 : Hid (w1.heap[w.heap.size]? = _) := B21
    have hn : mkN q true = q * 2 ^ 1 := rfl
    rw [← hn] at hu
    clear hW1 B21
    obtain ⟨vo, vl, vc, rfl, hvl⟩ := hu.slice2
    have hv3 := hu
    clear hu
    have fin : Hid (∀ b : Bool, b = (s && decide (mkN q true ≠ 0)) → ∃ x, Ending.returned (.agg #[.bool b, .slice vo vl vc, .int .i64 (e - 1)]) = .returned x ∧ NumV (((w1.setCell ⟨w.heap.size, 0, none⟩ (.bool b)).setCell ⟨w.heap.size, 1, none⟩ (.slice vo vl vc)).setCell ⟨w.heap.size, 2, none⟩ (.int .i64 (e - 1))) x (s && decide (mkN q true ≠ 0)) (mkN q true) (e - 1) ∧ Below w.heap.size w (((w1.setCell ⟨w.heap.size, 0, none⟩ (.bool b)).setCell ⟨w.heap.size, 1, none⟩ (.slice vo vl vc)).setCell ⟨w.heap.size, 2, none⟩ (.int .i64 (e - 1)))) := by
      intro b hb
      have hbx : BoxT w1 w.heap.size 92 := BoxT.of HB2.out
      have K : Keeps w1 (((w1.setCell ⟨w.heap.size, 0, none⟩ (.bool b)).setCell ⟨w.heap.size, 1, none⟩ (.slice vo vl vc)).setCell ⟨w.heap.size, 2, none⟩ (.int .i64 (e - 1))) := (((Keeps.refl w1).set hbx (by decide)).set hbx.set (by decide)).set hbx.set.set (by decide)
      refine ⟨_, rfl, ?_, ((hbA.setCell (by simp) _).setCell (by simp) _).setCell (by simp) _⟩
      rw [← hb]
      exact ⟨_, _, _, rfl, hvl.out, hv3.keeps K⟩
    have hz : (0 < vl) = (mkN q true ≠ 0) := by
      have h1 := hvl.out
      have h2 := len_zero_iff (mkN q true)
      apply propext
      omega
    obtain ⟨k0, k1, k2, k3, k4, k5⟩ := blk3 HB2.out
    clear hbA hv3 HB2
    cases s
    · go_wp2_with fail
      refine bodyPost_ret (v := .agg #[.bool false, .slice vo vl vc, .int .i64 (e - 1)]) (by simp [results, Tryz.results125, go_sem, k0, k1, k2]) rfl ?_
      exact fin.out false (by rw [Bool.false_and])
    · by_cases h0 : 0 < vl
      · have HE : Hid (true = (true && decide (mkN q true ≠ 0))) := by
          show _ = _
          rw [hz] at h0
          rw [decide_eq_true h0]; rfl
        clear hz
        go_wp2_with fail
        refine bodyPost_ret (v := .agg #[.bool true, .slice vo vl vc, .int .i64 (e - 1)]) (by simp [results, Tryz.results125, go_sem, k0, k1, k2]) rfl ?_
        exact fin.out true HE.out
      · have HE : Hid (false = (true && decide (mkN q true ≠ 0))) := by
          show _ = _
          rw [hz] at h0
          rw [decide_eq_false h0]; rfl
        have h1 : vl = 0 := by omega
        clear hz h0
        subst h1
        go_wp2_with fail
        refine bodyPost_ret (v := .agg #[.bool false, .slice vo 0 vc, .int .i64 (e - 1)]) (by simp [results, Tryz.results125, go_sem, k0, k1, k2]) rfl ?_
        exact fin.out false HE.out
end Go.Proofs.YtonhpkigoplmaaaGreatDoor
namespace Go.Proofs.YtonhpkigoplmaaaGreatDoor
open Go.RowKit

theorem nval_getD : ∀ (j : Nat) (l : List Nat), (∀ d ∈ l, d < 16777216) → l.getD j 0 = nval l / 16777216 ^ j % 16777216
  | j, [], _ => by simp [nval]
  | 0, d :: r, h => by
    have := h d (by simp)
    simp [nval]
    omega
  | j + 1, d :: r, h => by
    have hd := h d (by simp)
    rw [List.getD_cons_succ, nval_getD j r (fun x hx => h x (by simp [hx])), Nat.pow_succ, Nat.mul_comm (16777216 ^ j), ← Nat.div_div_eq_div_mul]
    congr 2
    simp only [nval]
    omega

theorem digits_getD (j n : Nat) : (digits n).getD j 0 = n / 16777216 ^ j % 16777216 := by
  have := nval_getD j (digits n) (digits_lt n)
  rwa [nval_digits] at this

theorem bit_at (n i : Nat) : (digits n).getD (i / 24) 0 / 2 ^ (i % 24) % 2 = n / 2 ^ i % 2 := by
  rw [digits_getD]
  have e : (16777216 : Nat) ^ (i / 24) = 2 ^ (24 * (i / 24)) := by rw [Nat.pow_mul]
  have e2 : (16777216 : Nat) = 2 ^ (i % 24) * 2 ^ (24 - i % 24) := by rw [← Nat.pow_add, show i % 24 + (24 - i % 24) = 24 by omega]
  rw [e]
  generalize hm : n / 2 ^ (24 * (i / 24)) = m
  have h1 : m % 16777216 / 2 ^ (i % 24) = m / 2 ^ (i % 24) % 2 ^ (24 - i % 24) := by
    rw [e2, Nat.mod_mul_right_div_self]
  have h2 : m / 2 ^ (i % 24) = n / 2 ^ i := by
    rw [← hm, Nat.div_div_eq_div_mul, ← Nat.pow_add, show 24 * (i / 24) + i % 24 = i by omega]
  rw [h1, h2]
  have : 2 ∣ 2 ^ (24 - i % 24) := ⟨2 ^ (23 - i % 24), by rw [← Nat.pow_succ', show (23 - i % 24).succ = 24 - i % 24 by omega]⟩
  exact Nat.mod_mod_of_dvd _ this

theorem half_step (n k : Nat) : n / 2 ^ k = n / 2 ^ (k + 1) * 2 ^ 1 + n / 2 ^ k % 2 := by
  rw [Nat.pow_succ, ← Nat.div_div_eq_div_mul]
  omega

theorem over_step {P P' b β : Nat} (hb : 0 < b) (hβ : β < 2) (hP : P' = P * 2 ^ 1 + β) :
    (b ≤ P % b * 2 ^ 1 + β → P' / b = P / b * 2 ^ 1 + 1 ∧ P' % b = P % b * 2 ^ 1 + β - b) ∧ (P % b * 2 ^ 1 + β < b → P' / b = P / b * 2 ^ 1 ∧ P' % b = P % b * 2 ^ 1 + β) := by
  have hd := Nat.div_add_mod P b
  have hl := Nat.mod_lt P hb
  have e : P' = b * (P / b * 2 ^ 1) + (P % b * 2 ^ 1 + β) := by
    rw [hP, ← Nat.mul_assoc]
    omega
  constructor
  · intro h
    have e' : P' = (P % b * 2 ^ 1 + β - b) + b * (P / b * 2 ^ 1 + 1) := by rw [Nat.mul_add]; omega
    have hlt : P % b * 2 ^ 1 + β - b < b := by omega
    rw [e', Nat.add_mul_div_left _ _ hb, Nat.add_mul_mod_self_left, Nat.div_eq_of_lt hlt, Nat.mod_eq_of_lt hlt]
    exact ⟨by omega, rfl⟩
  · intro h
    rw [e, Nat.add_comm, Nat.add_mul_div_left _ _ hb, Nat.add_mul_mod_self_left, Nat.div_eq_of_lt h, Nat.mod_eq_of_lt h]
    exact ⟨by omega, rfl⟩

theorem len_mono {n m : Nat} (h : n ≤ m) : (digits n).length ≤ (digits m).length := len_of_lt (Nat.lt_of_le_of_lt h (lt_pow_len m))

theorem bl_len (n : Nat) : bl n ≤ 24 * (digits n).length := by
  apply bl_le
  rw [Nat.pow_mul]
  exact lt_pow_len n

theorem i64_and1 (n : Int) : bits .and .i64 n 1 = n % 2 := by
  have h1 : (BitVec.ofInt 64 1).toNat = 2 ^ 1 - 1 := by decide
  have key : (BitVec.ofInt 64 n &&& BitVec.ofInt 64 1).toNat = (n % ((2 ^ 64 : Nat) : Int)).toNat % 2 ^ 1 := by
    rw [BitVec.toNat_and, BitVec.toNat_ofInt, h1, Nat.and_two_pow_sub_one_eq_mod]
  show IntKind.i64.wrap ((BitVec.ofInt 64 n &&& BitVec.ofInt 64 1).toNat : Nat) = n % 2
  rw [key, IntKind.wrap_i64]
  omega
end Go.Proofs.YtonhpkigoplmaaaGreatDoor
namespace Go.Proofs.YtonhpkigoplmaaaGreatDoor
open Go.RowKit

set_option maxHeartbeats 1000000 in
set_option maxRecDepth 100000 in
theorem over_any (a b : Nat) (va vb : Value) (w : World) (ha : NatV w va a) (hb : NatV w vb b) (hb0 : 0 < b) (hla : (digits a).length ≤ 400000) (hlb : (digits b).length ≤ 400000) :
    Calls Tryz.prog 165 #[va, vb] w fun ev w' => ∃ v, ev = .returned (.tuple #[v, .bool (decide (a % b = 0))]) ∧ NatV w' v (a / b) ∧ Below w.heap.size w w' := by
  have HA : Hid (NatV w va a) := ha
  have HB : Hid (NatV w vb b) := hb
  obtain ⟨ao, cap, rfl, hcap, HC'⟩ := Dig.open ha
  have HC : Hid ((digits a).length = 0 ∨ ∃ b off, ao = some ⟨b, off, none⟩ ∧ b < w.heap.size ∧ ∀ i, i < (digits a).length → w.cell? ⟨b, off + i, none⟩ = some (.int .i64 ((digits a).getD i 0 : Nat))) := HC'
  have hbl := bl_len a
  have hbw : wrap64 ((bl a : Int) - 1) = (bl a : Int) - 1 := by unfold wrap64; omega
  have HL : Hid ((digits a).length ≤ 400000) := hla
  have HLB : Hid ((digits b).length ≤ 400000) := hlb
  have HB0 : Hid (0 < b) := hb0
  have HBL : Hid (bl a ≤ 24 * (digits a).length) := hbl
  clear ha hb HC' hla hlb hb0 hbl
  go_enter Tryz.func165, Tryz.ntmps165
  go_wp2_with fail
  refine (size_any a _ w HA.out (by have := HL.out; omega)).mono ?_
  rintro ev w1 ⟨rfl, rfl⟩
  go_wp2_with fail
  rw [hbw]
  go_loopw [8, 6, 7] (fun x vq vr wr => ∃ k : Nat, k ≤ bl a ∧ x = .int .i64 ((k : Int) - 1) ∧ NatV wr vq (a / 2 ^ k / b) ∧ NatV wr vr (a / 2 ^ k % b) ∧ Below w1.heap.size w1 wr) (fun x _ _ _ => (intOf x + 1).toNat)
  case atStart =>
    have h0 : a / 2 ^ bl a = 0 := by
      rcases Nat.eq_zero_or_pos a with h | h
      · subst h; simp
      · exact Nat.div_eq_of_lt (bl_bounds h).2.1
    exact ⟨bl a, Nat.le_refl _, rfl, by rw [h0, Nat.zero_div]; exact NatV.zero _, by rw [h0, Nat.zero_mod]; exact NatV.zero _, Below.refl _ _⟩
  case round =>
    obtain ⟨k, hk, rfl, hq, hr, hbr⟩ := hrel
    by_cases hk0 : k = 0
    · subst hk0
      rw [Nat.pow_zero, Nat.div_one] at hq hr
      obtain ⟨qo, ql, qc, rfl, hql⟩ := hq.slice2
      obtain ⟨ro, rl, rc, rfl, hrl⟩ := hr.slice2
      have hz : decide ((rl : Int) = 0) = decide (a % b = 0) := by
        have h1 := hrl.out
        have h2 := len_zero_iff (a % b)
        apply decide_eq_decide.2
        omega
      have HQ : Hid (NatV wr (.slice qo ql qc) (a / b)) := hq
      have HR : Hid (Below w1.heap.size w1 wr) := hbr
      have HZ : Hid (((rl : Int) == 0) = decide (a % b = 0)) := by
        show _ = _
        rw [← hz, Bool.eq_iff_iff, beq_iff_eq, decide_eq_true_eq]
      clear hq hr hbr hz hrl hql
      go_wp2_with fail
      refine bodyPost_ret (v := .tuple #[.slice qo ql qc, .bool ((rl : Int) == 0)]) (by simp [results, Tryz.results165, go_sem]) rfl ?_
      exact ⟨_, by rw [HZ.out], HQ.out, HR.out⟩
    · obtain ⟨j, rfl⟩ : ∃ j, k = j + 1 := ⟨k - 1, by omega⟩
      have hj : j / 24 < (digits a).length := by have := HBL.out; omega
      have hjb0 : j ≤ 10000000 := by have := HL.out; have := HBL.out; omega
      obtain ⟨g, off, rfl, hg, hc⟩ := HC.out.resolve_left (by omega)
      have c1 := (hbr.cell (p := ⟨g, off + j / 24, none⟩) hg).trans (hc (j / 24) hj)
      have hbit := bit_at a j
      have hdl : (digits a).getD (j / 24) 0 < 16777216 := getD_lt (digits_lt a) _
      have hji : ((j + 1 : Nat) : Int) - 1 = (j : Int) := by omega
      rw [hji]
      generalize (digits a).getD (j / 24) 0 = d at *
      have hbv : bits .and .i64 ((d : Int) / 2 ^ (j % 24)) 1 = ((a / 2 ^ j % 2 : Nat) : Int) := by
        rw [i64_and1, ← hbit]
        have e : (2 : Int) ^ (j % 24) = ((2 ^ (j % 24) : Nat) : Int) := by rw [Int.natCast_pow]; rfl
        rw [e]
        generalize 2 ^ (j % 24) = g
        omega
      have HSt := over_step (P := a / 2 ^ (j + 1)) (P' := a / 2 ^ j) (β := a / 2 ^ j % 2) HB0.out (by omega) (half_step a j)
      have hP : a / 2 ^ (j + 1) ≤ a := Nat.div_le_self _ _
      have lr : (digits (a / 2 ^ (j + 1) % b)).length ≤ 400000 := Nat.le_trans (len_mono (Nat.le_of_lt (Nat.mod_lt _ HB0.out))) HLB.out
      have lq : (digits (a / 2 ^ (j + 1) / b)).length ≤ 400000 := Nat.le_trans (len_mono (Nat.le_trans (Nat.div_le_self _ _) hP)) HL.out
      have hβ : a / 2 ^ j % 2 < 2 := Nat.mod_lt _ (by decide)
      have HSt' : Hid ((b ≤ a / 2 ^ (j + 1) % b * 2 ^ 1 + a / 2 ^ j % 2 → a / 2 ^ j / b = a / 2 ^ (j + 1) / b * 2 ^ 1 + 1 ∧ a / 2 ^ j % b = a / 2 ^ (j + 1) % b * 2 ^ 1 + a / 2 ^ j % 2 - b) ∧ (a / 2 ^ (j + 1) % b * 2 ^ 1 + a / 2 ^ j % 2 < b → a / 2 ^ j / b = a / 2 ^ (j + 1) / b * 2 ^ 1 ∧ a / 2 ^ j % b = a / 2 ^ (j + 1) % b * 2 ^ 1 + a / 2 ^ j % 2)) := HSt
      clear HSt hP hbit hdl hji
      generalize a / 2 ^ j % 2 = β at *
      generalize a / 2 ^ (j + 1) % b = R at *
      generalize a / 2 ^ (j + 1) / b = Q at *
      have lr1 : (digits (R * 2 ^ 1)).length ≤ 500000 := Nat.le_trans len_mul_pow (by omega)
      have lq1 : (digits (Q * 2 ^ 1)).length ≤ 500000 := Nat.le_trans len_mul_pow (by omega)
      have lβ : (digits β).length ≤ 1 := len_of_lt (by omega)
      have l1 : (digits 1).length ≤ 1 := len_of_lt (by omega)
      have lr2 : (digits (R * 2 ^ 1 + β)).length ≤ 600000 := by
        refine Nat.le_trans (len_mono (m := R * 2 ^ 2 + 1) ?_) ?_
        · omega
        · have := len_of_lt (n := R * 2 ^ 2 + 1) (k := (digits R).length + 1) (by
            have h1 := lt_pow_len R
            rw [Nat.pow_succ 16777216]
            generalize 16777216 ^ (digits R).length = g at h1 ⊢
            omega)
          exact Nat.le_trans this (by omega)
      go_wp2_with fail
      try rw [hbv]
      clear c1 hbv
      refine (up_any R 1 _ _ hr (by omega) (by omega)).mono ?_
      rintro ev w2 ⟨r1, rfl, hr1, hb1⟩
      have hB1 : Below w1.heap.size w1 w2 := hbr.trans (hb1.mono hbr.size)
      have hq1 := hq.below hb1 (Nat.le_refl _)
      clear hb1 hbr hq hr
      go_wp2_with fail
      refine (nat_any β w2 (by omega)).mono ?_
      rintro ev w3 ⟨o, rfl, ho, hb2⟩
      have hB2 : Below w1.heap.size w1 w3 := hB1.trans (hb2.mono hB1.size)
      have hq2 := hq1.below hb2 (Nat.le_refl _)
      have hr2 := hr1.below hb2 (Nat.le_refl _)
      clear hb2 hB1 hq1 hr1
      go_wp2_with fail
      refine (plus_any (R * 2 ^ 1) β _ _ w3 hr2 ho (by omega) (by omega)).mono ?_
      rintro ev w4 ⟨r3, rfl, hr3, hb3⟩
      have hB3 : Below w1.heap.size w1 w4 := hB2.trans (hb3.mono hB2.size)
      have hq3 := hq2.below hb3 (Nat.le_refl _)
      clear hb3 hB2 hq2 hr2 ho
      go_wp2_with fail
      refine (up_any Q 1 _ w4 hq3 (by omega) (by omega)).mono ?_
      rintro ev w5 ⟨q4, rfl, hq4, hb4⟩
      have hB4 : Below w1.heap.size w1 w5 := hB3.trans (hb4.mono hB3.size)
      have hr4 := hr3.below hb4 (Nat.le_refl _)
      clear hb4 hB3 hq3 hr3
      go_wp2_with fail
      refine (cmp_any (R * 2 ^ 1 + β) b _ _ w5 hr4 (HB.out.below hB4 (Nat.le_refl _)) (by omega) (by have := HLB.out; omega)).mono ?_
      rintro ev w6 ⟨rfl, hb5⟩
      have hB5 : Below w1.heap.size w1 w6 := hB4.trans (hb5.mono hB4.size)
      have hr5 := hr4.below hb5 (Nat.le_refl _)
      have hq5 := hq4.below hb5 (Nat.le_refl _)
      clear hb5 hB4 hr4 hq4
      by_cases hc : b ≤ R * 2 ^ 1 + β
      · have hcm : 0 ≤ cmpI (R * 2 ^ 1 + β) b := by unfold cmpI; rw [if_neg (by omega)]; split <;> omega
        obtain ⟨e1, e2⟩ := HSt'.out.1 hc
        go_wp2_with fail
        refine (minus_any (R * 2 ^ 1 + β) b _ _ w6 hr5 (HB.out.below hB5 (Nat.le_refl _)) hc (by omega)).mono ?_
        rintro ev w7 ⟨r6, rfl, hr6, hb6⟩
        have hB6 : Below w1.heap.size w1 w7 := hB5.trans (hb6.mono hB5.size)
        have hq6 := hq5.below hb6 (Nat.le_refl _)
        clear hb6 hB5 hq5 hr5
        go_wp2_with fail
        refine (nat_any 1 w7 (by omega)).mono ?_
        rintro ev w8 ⟨o2, rfl, ho2, hb7⟩
        have hB7 : Below w1.heap.size w1 w8 := hB6.trans (hb7.mono hB6.size)
        have hq7 := hq6.below hb7 (Nat.le_refl _)
        have hr7 := hr6.below hb7 (Nat.le_refl _)
        clear hb7 hB6 hq6 hr6
        go_wp2_with fail
        refine (plus_any (Q * 2 ^ 1) 1 _ _ w8 hq7 ho2 (by omega) (by omega)).mono ?_
        rintro ev w9 ⟨q8, rfl, hq8, hb8⟩
        have hB8 : Below w1.heap.size w1 w9 := hB7.trans (hb8.mono hB7.size)
        have hr8 := hr7.below hb8 (Nat.le_refl _)
        rw [← e1] at hq8
        rw [← e2] at hr8
        clear hb8 hB7 hq7 hr7 ho2
        go_wp2
        go_roundw
        case rel => exact ⟨j, by omega, by go_num, hq8, hr8, hB8⟩
        case measure => simp [intOf]
      · have hcm : cmpI (R * 2 ^ 1 + β) b = -1 := by unfold cmpI; rw [if_pos (by omega)]
        obtain ⟨e1, e2⟩ := HSt'.out.2 (by omega)
        rw [← e1] at hq5
        rw [← e2] at hr5
        go_wp2
        go_roundw
        case rel => exact ⟨j, by omega, by go_num, hq5, hr5, hB5⟩
        case measure => simp [intOf]
end Go.Proofs.YtonhpkigoplmaaaGreatDoor
namespace Go.Proofs.YtonhpkigoplmaaaGreatDoor
open Go.RowKit

/-- What encloseref.quotient gives. -/
def quoT (sa : Bool) (na : Nat) (ea : Int) (sb : Bool) (nb : Nat) (eb : Int) : Bool × Nat × Int :=
  ((sa != sb) && decide (mkN (na * 2 ^ (60 + bl nb) / nb) (decide (na * 2 ^ (60 + bl nb) % nb = 0)) ≠ 0), mkN (na * 2 ^ (60 + bl nb) / nb) (decide (na * 2 ^ (60 + bl nb) % nb = 0)), ea - (60 + bl nb : Nat) - eb - 1)

set_option maxHeartbeats 1000000 in
set_option maxRecDepth 100000 in
theorem quotient_any (xa xb : Value) (sa sb : Bool) (na nb : Nat) (ea eb : Int) (w : World) (ha : NumV w xa sa na ea) (hb : NumV w xb sb nb eb) (hb0 : 0 < nb)
    (hla : (digits na).length ≤ 1000) (hlb : (digits nb).length ≤ 1000) (he1 : -100000 ≤ ea) (he2 : ea ≤ 100000) (he3 : -100000 ≤ eb) (he4 : eb ≤ 100000) :
    Calls Tryz.prog 122 #[xa, xb] w fun ev w' => ∃ x, ev = .returned x ∧ NumV w' x (quoT sa na ea sb nb eb).1 (quoT sa na ea sb nb eb).2.1 (quoT sa na ea sb nb eb).2.2 ∧ Below w.heap.size w w' := by
  obtain ⟨ao, la, ca, rfl, hl1, hNa⟩ := ha
  obtain ⟨bo, lb, cb, rfl, hl2, hNb⟩ := hb
  have hbl := bl_len nb
  have hsz : bl nb ≤ 24000 := by omega
  have lup : (digits (na * 2 ^ (60 + bl nb))).length ≤ 400000 := Nat.le_trans len_mul_pow (by omega)
  have lq : (digits (na * 2 ^ (60 + bl nb) / nb)).length ≤ 400000 := Nat.le_trans (len_mono (Nat.div_le_self _ _)) lup
  clear hl1 hl2 hbl
  have hQ : quoT sa na ea sb nb eb = ((sa != sb) && decide (mkN (na * 2 ^ (60 + bl nb) / nb) (decide (na * 2 ^ (60 + bl nb) % nb = 0)) ≠ 0), mkN (na * 2 ^ (60 + bl nb) / nb) (decide (na * 2 ^ (60 + bl nb) % nb = 0)), ea - (60 + bl nb : Nat) - eb - 1) := rfl
  have HQ : Hid (quoT sa na ea sb nb eb = ((sa != sb) && decide (mkN (na * 2 ^ (60 + bl nb) / nb) (decide (na * 2 ^ (60 + bl nb) % nb = 0)) ≠ 0), mkN (na * 2 ^ (60 + bl nb) / nb) (decide (na * 2 ^ (60 + bl nb) % nb = 0)), ea - (60 + bl nb : Nat) - eb - 1)) := hQ
  clear hQ
  have hq := run_neq_boolF
  go_enter Tryz.func122, Tryz.ntmps122
  go_wp2_with fail
  have B0 := blk_old (blk_old (blk_new w (Obj.cells #[.bool sa, .slice ao la ca, .int .i64 ea] 92)) (Obj.cells #[.bool sb, .slice bo lb cb, .int .i64 eb] 92)) (Obj.cells #[.bool false, .slice none 0 0, .int .i64 0] 92)
  have B1 := blk_old (blk_new (w.alloc (Obj.cells #[.bool sa, .slice ao la ca, .int .i64 ea] 92)) (Obj.cells #[.bool sb, .slice bo lb cb, .int .i64 eb] 92)) (Obj.cells #[.bool false, .slice none 0 0, .int .i64 0] 92)
  have B2 := blk_new ((w.alloc (Obj.cells #[.bool sa, .slice ao la ca, .int .i64 ea] 92)).alloc (Obj.cells #[.bool sb, .slice bo lb cb, .int .i64 eb] 92)) (Obj.cells #[.bool false, .slice none 0 0, .int .i64 0] 92)
  have hW : Below w.heap.size w (((w.alloc (Obj.cells #[.bool sa, .slice ao la ca, .int .i64 ea] 92)).alloc (Obj.cells #[.bool sb, .slice bo lb cb, .int .i64 eb] 92)).alloc (Obj.cells #[.bool false, .slice none 0 0, .int .i64 0] 92)) := (((Below.refl _ _).alloc (Nat.le_refl _) _).alloc (by simp) _).alloc (by simp; omega) _
  simp only [World.size_alloc] at B1 B2
  generalize (((w.alloc (Obj.cells #[.bool sa, .slice ao la ca, .int .i64 ea] 92)).alloc (Obj.cells #[.bool sb, .slice bo lb cb, .int .i64 eb] 92)).alloc (Obj.cells #[.bool false, .slice none 0 0, .int .i64 0] 92)) = W2 at *
  have hA2 := hNa.below hW (Nat.le_refl _)
  have hB2 := hNb.below hW (Nat.le_refl _)
  obtain ⟨k00, k01, k02, -, -, -⟩ := blk3 B0
  obtain ⟨k10, k11, k12, -, -, -⟩ := blk3 B1
  refine (size_any nb _ _ hB2 (by omega)).mono ?_
  rintro ev w1 ⟨rfl, rfl⟩
  go_wp2_with fail
  have hcast : (60 : Int) + (bl nb : Int) = ((60 + bl nb : Nat) : Int) := by omega
  rw [hcast]
  generalize hK : 60 + bl nb = K at *
  have hKb : K ≤ 24060 := by omega
  clear hcast hsz hNa hNb
  refine (up_any na K _ _ hA2 (by omega) (by omega)).mono ?_
  rintro ev w2 ⟨n, rfl, hn, hb2⟩
  have hB2' := hB2.below hb2 (Nat.le_refl _)
  have hW2 : Below w.heap.size w w2 := hW.trans (hb2.mono hW.size)
  have C0 := blk_below B0 hb2
  have C1 := blk_below B1 hb2
  have C2 := blk_below B2 hb2
  clear hA2 hB2 hb2 hW B0 B1 B2 k00 k01 k02 k10 k11 k12
  obtain ⟨k00, k01, k02, -, -, -⟩ := blk3 C0
  obtain ⟨k10, k11, k12, -, -, -⟩ := blk3 C1
  go_wp2_with fail
  refine (over_any (na * 2 ^ K) nb _ _ w2 hn hB2' hb0 (by omega) (by omega)).mono ?_
  rintro ev w3 ⟨q, rfl, hqv, hb3⟩
  have hW3 : Below w.heap.size w w3 := hW2.trans (hb3.mono hW2.size)
  have D0 := blk_below C0 hb3
  have D1 := blk_below C1 hb3
  have D2 := blk_below C2 hb3
  clear hb3 hW2 C0 C1 C2 k00 k01 k02 k10 k11 k12 hn hB2'
  obtain ⟨k00, k01, k02, -, -, -⟩ := blk3 D0
  obtain ⟨k10, k11, k12, -, -, -⟩ := blk3 D1
  have HMK : Hid (∀ w3, NatV w3 q (na * 2 ^ K / nb) → Calls Tryz.prog 125 #[.bool (sa != sb), q, .int .i64 (ea - (K : Int) - eb), .bool (decide (na * 2 ^ K % nb = 0))] w3 fun ev w' => ∃ x, ev = .returned x ∧ NumV w' x (quoT sa na ea sb nb eb).1 (quoT sa na ea sb nb eb).2.1 (quoT sa na ea sb nb eb).2.2 ∧ Below w3.heap.size w3 w') := by
    intro w3 h3
    rw [HQ.out]
    exact marked_any (sa != sb) _ _ _ q w3 h3 (by omega) (by omega) (by omega)
  have HV : Hid (NatV w3 q (na * 2 ^ K / nb)) := hqv
  have HW3 : Hid (Below w.heap.size w w3) := hW3
  have HD2 : Hid (w3.heap[w.heap.size + 1 + 1]? = _) := D2
  clear hqv hW3 D0 D1 D2 lq lup hla hlb HQ hb0 hK
  generalize decide (na * 2 ^ K % nb = 0) = wh at *
  go_wp2_with fail
  refine Calls.mono (HMK.out _ HV.out) ?_
  rintro ev w4 ⟨x, rfl, ⟨vo, vl, vc, rfl, hvl, hvn⟩, hb4⟩
  have hbA : Below w.heap.size w w4 := HW3.out.trans (hb4.mono HW3.out.size)
  have HB2 : Hid (w4.heap[w.heap.size + 1 + 1]? = _) := blk_below HD2.out hb4
  obtain ⟨k20, k21, k22, k23, k24, k25⟩ := blk3 HB2.out
  have hbx : BoxT w4 (w.heap.size + 1 + 1) 92 := BoxT.of HB2.out
  have HB4 : Hid (Below w.heap.size w w4) := hbA
  have HVL : Hid (vl = (digits (quoT sa na ea sb nb eb).2.1).length) := hvl
  have HVN : Hid (NatV w4 (.slice vo vl vc) (quoT sa na ea sb nb eb).2.1) := hvn
  have HBX : Hid (BoxT w4 (w.heap.size + 1 + 1) 92) := hbx
  clear hb4 hbA hbx hvl hvn HMK HV HW3 HD2 k00 k01 k02 k10 k11 k12
  go_wp2_with fail
  refine bodyPost_ret (v := .agg #[.bool (quoT sa na ea sb nb eb).1, .slice vo vl vc, .int .i64 (quoT sa na ea sb nb eb).2.2]) (by simp [results, Tryz.results122, go_sem, k20, k21, k22]) rfl ?_
  have K : Keeps w4 (((w4.setCell ⟨w.heap.size + 1 + 1, 0, none⟩ (.bool (quoT sa na ea sb nb eb).1)).setCell ⟨w.heap.size + 1 + 1, 1, none⟩ (.slice vo vl vc)).setCell ⟨w.heap.size + 1 + 1, 2, none⟩ (.int .i64 (quoT sa na ea sb nb eb).2.2)) := (((Keeps.refl w4).set HBX.out (by decide)).set HBX.out.set (by decide)).set HBX.out.set.set (by decide)
  exact ⟨_, rfl, ⟨_, _, _, rfl, HVL.out, HVN.out.keeps K⟩, ((HB4.out.setCell (by simp; omega) _).setCell (by simp; omega) _).setCell (by simp; omega) _⟩
end Go.Proofs.YtonhpkigoplmaaaGreatDoor
namespace Go.Proofs.YtonhpkigoplmaaaGreatDoor
open Go.RowKit

/-- c is the whole root of n. -/
def IsRoot (n c : Nat) : Prop := c * c ≤ n ∧ n < (c + 1) * (c + 1)

theorem root_start (a : Nat) : a < 2 ^ ((bl a + 1) / 2 + 1) * 2 ^ ((bl a + 1) / 2 + 1) := by
  rw [← Nat.pow_add]
  rcases Nat.eq_zero_or_pos a with h | h
  · subst h; exact Nat.two_pow_pos _
  · exact Nat.lt_of_lt_of_le (bl_bounds h).2.1 (Nat.pow_le_pow_right (by decide) (by omega))

theorem root_len {x a : Nat} (h : x * x ≤ a) : (digits x).length ≤ (digits a).length := by
  apply len_mono
  rcases Nat.eq_zero_or_pos x with h0 | h0
  · omega
  · exact Nat.le_trans (Nat.le_mul_of_pos_left x h0) h

theorem len_add {x y k : Nat} (hx : (digits x).length ≤ k) (hy : (digits y).length ≤ k) : (digits (x + y)).length ≤ k + 1 := by
  have h2 := lt_pow_len x
  have h3 := lt_pow_len y
  have h4 : 16777216 ^ (digits x).length ≤ 16777216 ^ k := Nat.pow_le_pow_right (by decide) hx
  have h5 : 16777216 ^ (digits y).length ≤ 16777216 ^ k := Nat.pow_le_pow_right (by decide) hy
  apply len_of_lt
  rw [Nat.pow_succ]
  generalize 16777216 ^ k = G at *
  omega

set_option maxHeartbeats 1000000 in
set_option maxRecDepth 100000 in
theorem rootR_any (a : Nat) (va : Value) (w : World) (ha : NatV w va a) (hla : (digits a).length ≤ 10000) :
    Calls Tryz.prog 124 #[va] w fun ev w' => ∃ v c, ev = .returned (.tuple #[v, .bool (decide (c * c = a))]) ∧ NatV w' v c ∧ IsRoot a c ∧ Below w.heap.size w w' := by
  have HA : Hid (NatV w va a) := ha
  have hbl := bl_len a
  have HL : Hid ((digits a).length ≤ 10000) := hla
  have hbb : bl a ≤ 240000 := by omega
  have HST := root_start a
  have HStart : Hid (a < 2 ^ ((bl a + 1) / 2 + 1) * 2 ^ ((bl a + 1) / 2 + 1)) := HST
  clear ha hla HST hbl
  go_enter Tryz.func124, Tryz.ntmps124
  go_wp2_with fail
  refine (size_any a _ w HA.out (by have := HL.out; omega)).mono ?_
  rintro ev w1 ⟨rfl, rfl⟩
  go_wp2_with fail
  go_loopw [5, 4] (fun v5 v4 wr => ∃ k x : Nat, k ≤ (bl a + 1) / 2 + 1 ∧ v5 = .int .i64 ((k : Int) - 1) ∧ NatV wr v4 x ∧ x * x ≤ a ∧ a < (x + 2 ^ k) * (x + 2 ^ k) ∧ Below w1.heap.size w1 wr) (fun v5 _ _ => (intOf v5 + 1).toNat)
  case atStart =>
    refine ⟨(bl a + 1) / 2 + 1, 0, Nat.le_refl _, ?_, NatV.zero _, by omega, by rw [Nat.zero_add]; exact HStart.out, Below.refl _ _⟩
    congr 1
    omega
  case round =>
    obtain ⟨k, x, hk, rfl, hx, hx1, hx2, hbr⟩ := hrel
    have lx := Nat.le_trans (root_len hx1) HL.out
    by_cases hk0 : k = 0
    · subst hk0
      rw [Nat.pow_zero] at hx2
      have HR : Hid (IsRoot a x) := ⟨hx1, hx2⟩
      have lxx : (digits (x * x)).length ≤ 10000 := Nat.le_trans (len_mono hx1) HL.out
      clear hx1 hx2 HStart
      obtain ⟨xo, xl, xc, rfl, hxl⟩ := hx.slice2
      clear hxl
      go_wp2_with fail
      refine (times_any x x _ _ wr hx hx (by omega) (by omega)).mono ?_
      rintro ev w2 ⟨s2, rfl, hs2, hb2⟩
      have hB2 : Below w1.heap.size w1 w2 := hbr.trans (hb2.mono hbr.size)
      have hx2 := hx.below hb2 (Nat.le_refl _)
      clear hb2 hbr hx
      go_wp2_with fail
      refine (cmp_any (x * x) a _ _ w2 hs2 (HA.out.below hB2 (Nat.le_refl _)) (by omega) (by have := HL.out; omega)).mono ?_
      rintro ev w3 ⟨rfl, hb3⟩
      have HB3 : Hid (Below w1.heap.size w1 w3) := hB2.trans (hb3.mono hB2.size)
      have HX3 : Hid (NatV w3 (.slice xo xl xc) x) := hx2.below hb3 (Nat.le_refl _)
      have HC : Hid ((cmpI (x * x) a == 0) = decide (x * x = a)) := by
        show _ = _
        rw [Bool.eq_iff_iff, beq_iff_eq, decide_eq_true_eq]
        unfold cmpI
        split
        · omega
        · split <;> omega
      clear hb3 hB2 hx2 hs2
      go_wp2_with fail
      refine bodyPost_ret (v := .tuple #[.slice xo xl xc, .bool (cmpI (x * x) a == 0)]) (by simp [results, Tryz.results124, go_sem]) rfl ?_
      exact ⟨_, x, by rw [HC.out], HX3.out, HR.out, HB3.out⟩
    · obtain ⟨j, rfl⟩ : ∃ j, k = j + 1 := ⟨k - 1, by omega⟩
      have hji : ((j + 1 : Nat) : Int) - 1 = (j : Int) := by omega
      rw [hji]
      have hjb : j ≤ 200000 := by omega
      have ly : (digits (x + 1 * 2 ^ j)).length ≤ 30000 := by
        have h1 : (digits (1 * 2 ^ j)).length ≤ 10002 := by
          rw [Nat.one_mul]
          have := len_of_lt2 (n := 2 ^ j) (k := j + 1) (Nat.pow_lt_pow_right (by decide) (by omega))
          omega
        exact Nat.le_trans (len_add (k := 10002) (by omega) h1) (by omega)
      have l1 : (digits 1).length ≤ 1 := len_of_lt (by omega)
      have l2 : (digits (1 * 2 ^ j)).length ≤ 30000 := Nat.le_trans (len_mono (Nat.le_add_left _ _)) ly
      have lyy : (digits ((x + 1 * 2 ^ j) * (x + 1 * 2 ^ j))).length ≤ 100000 := by
        have h2 := lt_pow_len (x + 1 * 2 ^ j)
        have h3 := Nat.mul_lt_mul'' h2 h2
        rw [← Nat.pow_add] at h3
        have := len_of_lt h3
        omega
      go_wp2_with fail
      refine (nat_any 1 wr (by omega)).mono ?_
      rintro ev w2 ⟨o, rfl, ho, hb2⟩
      have hB2 : Below w1.heap.size w1 w2 := hbr.trans (hb2.mono hbr.size)
      have hx2' := hx.below hb2 (Nat.le_refl _)
      clear hb2 hbr hx
      go_wp2_with fail
      refine (up_any 1 j _ w2 ho (by omega) (by omega)).mono ?_
      rintro ev w3 ⟨u, rfl, hu, hb3⟩
      have hB3 : Below w1.heap.size w1 w3 := hB2.trans (hb3.mono hB2.size)
      have hx3 := hx2'.below hb3 (Nat.le_refl _)
      clear hb3 hB2 hx2' ho
      go_wp2_with fail
      refine (plus_any x (1 * 2 ^ j) _ _ w3 hx3 hu (by omega) (by omega)).mono ?_
      rintro ev w4 ⟨y, rfl, hy, hb4⟩
      have hB4 : Below w1.heap.size w1 w4 := hB3.trans (hb4.mono hB3.size)
      have hx4 := hx3.below hb4 (Nat.le_refl _)
      clear hb4 hB3 hx3 hu
      go_wp2_with fail
      refine (times_any (x + 1 * 2 ^ j) (x + 1 * 2 ^ j) _ _ w4 hy hy (by omega) (by omega)).mono ?_
      rintro ev w5 ⟨z, rfl, hz, hb5⟩
      have hB5 : Below w1.heap.size w1 w5 := hB4.trans (hb5.mono hB4.size)
      have hx5 := hx4.below hb5 (Nat.le_refl _)
      have hy5 := hy.below hb5 (Nat.le_refl _)
      clear hb5 hB4 hx4 hy
      go_wp2_with fail
      refine (cmp_any ((x + 1 * 2 ^ j) * (x + 1 * 2 ^ j)) a _ _ w5 hz (HA.out.below hB5 (Nat.le_refl _)) (by omega) (by have := HL.out; omega)).mono ?_
      rintro ev w6 ⟨rfl, hb6⟩
      have hB6 : Below w1.heap.size w1 w6 := hB5.trans (hb6.mono hB5.size)
      have hx6 := hx5.below hb6 (Nat.le_refl _)
      have hy6 := hy5.below hb6 (Nat.le_refl _)
      clear hb6 hB5 hx5 hy5 hz
      rw [Nat.one_mul] at *
      have HX2 : Hid (a < (x + 2 ^ (j + 1)) * (x + 2 ^ (j + 1))) := hx2
      have HX1 : Hid (x * x ≤ a) := hx1
      have HK : Hid (j + 1 ≤ (bl a + 1) / 2 + 1) := hk
      have HX6 : Hid (NatV w6 _ x) := hx6
      have HY6 : Hid (NatV w6 y (x + 2 ^ j)) := hy6
      have HB6 : Hid (Below w1.heap.size w1 w6) := hB6
      clear hx1 hx2 hk hx6 hy6 hB6 lyy l2 ly lx HStart
      by_cases hc : (x + 2 ^ j) * (x + 2 ^ j) ≤ a
      · have hcm : cmpI ((x + 2 ^ j) * (x + 2 ^ j)) a ≤ 0 := by unfold cmpI; split; omega; split <;> omega
        have HC : Hid ((x + 2 ^ j) * (x + 2 ^ j) ≤ a) := hc
        have e : Hid (x + 2 ^ j + 2 ^ j = x + 2 ^ (j + 1)) := by show _ = _; rw [Nat.pow_succ]; omega
        clear hc
        generalize cmpI ((x + 2 ^ j) * (x + 2 ^ j)) a = cc at *
        go_wp2
        go_roundw
        case rel => exact ⟨j, x + 2 ^ j, by have := HK.out; omega, by go_num, HY6.out, HC.out, by rw [e.out]; exact HX2.out, HB6.out⟩
        case measure => simp [intOf]
      · have hcm : ¬ cmpI ((x + 2 ^ j) * (x + 2 ^ j)) a ≤ 0 := by unfold cmpI; rw [if_neg (by omega), if_neg (by omega)]; omega
        have HC : Hid (a < (x + 2 ^ j) * (x + 2 ^ j)) := by show _ < _; omega
        clear hc
        generalize cmpI ((x + 2 ^ j) * (x + 2 ^ j)) a = cc at *
        go_wp2
        go_roundw
        case rel => exact ⟨j, x, by have := HK.out; omega, by go_num, HX6.out, HX1.out, HC.out, HB6.out⟩
        case measure => simp [intOf]
end Go.Proofs.YtonhpkigoplmaaaGreatDoor
namespace Go.Proofs.YtonhpkigoplmaaaGreatDoor
open Go.RowKit

/-- By how much rooted shifts. -/
def rkT (e : Int) : Nat := if (e - 130) % 2 = 0 then 130 else 131

set_option maxHeartbeats 1000000 in
set_option maxRecDepth 100000 in
theorem rooted_any (xa : Value) (sa : Bool) (na : Nat) (ea : Int) (w : World) (ha : NumV w xa sa na ea)
    (hla : (digits na).length ≤ 1000) (he1 : -100000 ≤ ea) (he2 : ea ≤ 100000) :
    Calls Tryz.prog 70 #[xa] w fun ev w' => ∃ x c, ev = .returned x ∧ IsRoot (na * 2 ^ rkT ea) c ∧ NumV w' x false (mkN c (decide (c * c = na * 2 ^ rkT ea))) ((ea - rkT ea) / 2 - 1) ∧ Below w.heap.size w w' := by
  obtain ⟨ao, la, ca, rfl, hl1, hNa⟩ := ha
  clear hl1
  by_cases hp : (ea - 130) % 2 = 0
  · have hk : rkT ea = 130 := by unfold rkT; rw [if_pos hp]
    have ht : ((ea - 130).tmod 2 != 0) = false := by rw [Int.tmod_eq_zero_of_dvd (Int.dvd_of_emod_eq_zero hp)]; rfl
    have HK : Hid (rkT ea = 130) := hk
    have hdv : (2 : Int) ∣ ea - 130 := Int.dvd_of_emod_eq_zero (by omega)
    have htd : (ea - 130).tdiv 2 = (ea - 130) / 2 := Int.tdiv_eq_ediv_of_dvd hdv
    have lup : (digits (na * 2 ^ 130)).length ≤ 10000 := Nat.le_trans len_mul_pow (by omega)
    clear hk hdv hp
    go_enter Tryz.func70, Tryz.ntmps70
    go_wp2_with fail
    have B0 := blk_old (blk_new w (Obj.cells #[.bool sa, .slice ao la ca, .int .i64 ea] 92)) (Obj.cells #[.bool false, .slice none 0 0, .int .i64 0] 92)
    have B2 := blk_new (w.alloc (Obj.cells #[.bool sa, .slice ao la ca, .int .i64 ea] 92)) (Obj.cells #[.bool false, .slice none 0 0, .int .i64 0] 92)
    have hW : Below w.heap.size w ((w.alloc (Obj.cells #[.bool sa, .slice ao la ca, .int .i64 ea] 92)).alloc (Obj.cells #[.bool false, .slice none 0 0, .int .i64 0] 92)) := ((Below.refl _ _).alloc (Nat.le_refl _) _).alloc (by simp) _
    simp only [World.size_alloc] at B2
    generalize ((w.alloc (Obj.cells #[.bool sa, .slice ao la ca, .int .i64 ea] 92)).alloc (Obj.cells #[.bool false, .slice none 0 0, .int .i64 0] 92)) = W2 at *
    refine (up_any na 130 _ _ (hNa.below hW (Nat.le_refl _)) (by omega) (by omega)).mono ?_
    rintro ev w2 ⟨n, rfl, hn, hb2⟩
    have hW2 : Below w.heap.size w w2 := hW.trans (hb2.mono hW.size)
    have C0 := blk_below B0 hb2
    have C2 := blk_below B2 hb2
    clear hb2 hW B0 B2 hNa
    go_wp2_with fail
    refine (rootR_any (na * 2 ^ 130) _ w2 hn lup).mono ?_
    rintro ev w3 ⟨q, c, rfl, hqv, hroot, hb3⟩
    have hW3 : Below w.heap.size w w3 := hW2.trans (hb3.mono hW2.size)
    have D0 := blk_below C0 hb3
    have HD2 : Hid (w3.heap[w.heap.size + 1]? = _) := blk_below C2 hb3
    have lc := Nat.le_trans (root_len hroot.1) lup
    obtain ⟨k00, k01, k02, -, -, -⟩ := blk3 D0
    have HW3 : Hid (Below w.heap.size w w3) := hW3
    have HV : Hid (NatV w3 q c) := hqv
    have HRoot : Hid (IsRoot (na * 2 ^ 130) c) := hroot
    have HMK : Hid (∀ w3, NatV w3 q c → Calls Tryz.prog 125 #[.bool false, q, .int .i64 ((ea - 130) / 2), .bool (decide (c * c = na * 2 ^ 130))] w3 fun ev w' => ∃ x, ev = .returned x ∧ NumV w' x (false && decide (mkN c (decide (c * c = na * 2 ^ 130)) ≠ 0)) (mkN c (decide (c * c = na * 2 ^ 130))) ((ea - 130) / 2 - 1) ∧ Below w3.heap.size w3 w') := fun w3 h3 => marked_any false _ _ _ q w3 h3 (by omega) (by omega) (by omega)
    clear hW2 hb3 C0 C2 D0 hn hqv hW3 hroot lup lc hla
    have HP : Hid (∀ w4 x, NumV w4 x (false && decide (mkN c (decide (c * c = na * 2 ^ 130)) ≠ 0)) (mkN c (decide (c * c = na * 2 ^ 130))) ((ea - 130) / 2 - 1) → IsRoot (na * 2 ^ rkT ea) c ∧ NumV w4 x false (mkN c (decide (c * c = na * 2 ^ rkT ea))) ((ea - rkT ea) / 2 - 1)) := by
      intro w4 x h
      rw [HK.out]
      exact ⟨HRoot.out, h⟩
    clear HRoot HK
    generalize decide (c * c = na * 2 ^ 130) = wh at *
    go_wp2_with fail
    refine Calls.mono (HMK.out _ HV.out) ?_
    rintro ev w4 ⟨x, rfl, ⟨vo, vl, vc, rfl, hvl, hvn⟩, hb4⟩
    have hbA : Below w.heap.size w w4 := HW3.out.trans (hb4.mono HW3.out.size)
    have HB2 : Hid (w4.heap[w.heap.size + 1]? = _) := blk_below HD2.out hb4
    obtain ⟨k20, k21, k22, k23, k24, k25⟩ := blk3 HB2.out
    have HBX : Hid (BoxT w4 (w.heap.size + 1) 92) := BoxT.of HB2.out
    have HB4 : Hid (Below w.heap.size w w4) := hbA
    have HVL : Hid (vl = (digits (mkN c wh)).length) := hvl
    have HVN : Hid (NatV w4 (.slice vo vl vc) (mkN c wh)) := hvn
    clear hb4 hbA hvl hvn HMK HV HW3 HD2 k00 k01 k02
    go_wp2_with fail
    refine bodyPost_ret (v := .agg #[.bool (false && decide (mkN c wh ≠ 0)), .slice vo vl vc, .int .i64 ((ea - 130) / 2 - 1)]) (by simp [results, Tryz.results70, go_sem, k20, k21, k22]) rfl ?_
    have K : Keeps w4 (((w4.setCell ⟨w.heap.size + 1, 0, none⟩ (.bool (false && decide (mkN c wh ≠ 0)))).setCell ⟨w.heap.size + 1, 1, none⟩ (.slice vo vl vc)).setCell ⟨w.heap.size + 1, 2, none⟩ (.int .i64 ((ea - 130) / 2 - 1))) := (((Keeps.refl w4).set HBX.out (by decide)).set HBX.out.set (by decide)).set HBX.out.set.set (by decide)
    obtain ⟨z1, z2⟩ := HP.out _ _ ⟨_, _, _, rfl, HVL.out, HVN.out.keeps K⟩
    exact ⟨_, c, rfl, z1, z2, ((HB4.out.setCell (by simp) _).setCell (by simp) _).setCell (by simp) _⟩
  · have hk : rkT ea = 131 := by unfold rkT; rw [if_neg hp]
    have ht : ((ea - 130).tmod 2 != 0) = true := by
      rw [bne_iff_ne]
      intro hc
      exact hp (Int.emod_eq_zero_of_dvd (Int.dvd_of_tmod_eq_zero hc))
    have HK : Hid (rkT ea = 131) := hk
    have hdv : (2 : Int) ∣ ea - 131 := Int.dvd_of_emod_eq_zero (by omega)
    have htd : (ea - 131).tdiv 2 = (ea - 131) / 2 := Int.tdiv_eq_ediv_of_dvd hdv
    have lup : (digits (na * 2 ^ 131)).length ≤ 10000 := Nat.le_trans len_mul_pow (by omega)
    clear hk hdv hp
    go_enter Tryz.func70, Tryz.ntmps70
    go_wp2_with fail
    have B0 := blk_old (blk_new w (Obj.cells #[.bool sa, .slice ao la ca, .int .i64 ea] 92)) (Obj.cells #[.bool false, .slice none 0 0, .int .i64 0] 92)
    have B2 := blk_new (w.alloc (Obj.cells #[.bool sa, .slice ao la ca, .int .i64 ea] 92)) (Obj.cells #[.bool false, .slice none 0 0, .int .i64 0] 92)
    have hW : Below w.heap.size w ((w.alloc (Obj.cells #[.bool sa, .slice ao la ca, .int .i64 ea] 92)).alloc (Obj.cells #[.bool false, .slice none 0 0, .int .i64 0] 92)) := ((Below.refl _ _).alloc (Nat.le_refl _) _).alloc (by simp) _
    simp only [World.size_alloc] at B2
    generalize ((w.alloc (Obj.cells #[.bool sa, .slice ao la ca, .int .i64 ea] 92)).alloc (Obj.cells #[.bool false, .slice none 0 0, .int .i64 0] 92)) = W2 at *
    refine (up_any na 131 _ _ (hNa.below hW (Nat.le_refl _)) (by omega) (by omega)).mono ?_
    rintro ev w2 ⟨n, rfl, hn, hb2⟩
    have hW2 : Below w.heap.size w w2 := hW.trans (hb2.mono hW.size)
    have C0 := blk_below B0 hb2
    have C2 := blk_below B2 hb2
    clear hb2 hW B0 B2 hNa
    go_wp2_with fail
    refine (rootR_any (na * 2 ^ 131) _ w2 hn lup).mono ?_
    rintro ev w3 ⟨q, c, rfl, hqv, hroot, hb3⟩
    have hW3 : Below w.heap.size w w3 := hW2.trans (hb3.mono hW2.size)
    have D0 := blk_below C0 hb3
    have HD2 : Hid (w3.heap[w.heap.size + 1]? = _) := blk_below C2 hb3
    have lc := Nat.le_trans (root_len hroot.1) lup
    obtain ⟨k00, k01, k02, -, -, -⟩ := blk3 D0
    have HW3 : Hid (Below w.heap.size w w3) := hW3
    have HV : Hid (NatV w3 q c) := hqv
    have HRoot : Hid (IsRoot (na * 2 ^ 131) c) := hroot
    have HMK : Hid (∀ w3, NatV w3 q c → Calls Tryz.prog 125 #[.bool false, q, .int .i64 ((ea - 131) / 2), .bool (decide (c * c = na * 2 ^ 131))] w3 fun ev w' => ∃ x, ev = .returned x ∧ NumV w' x (false && decide (mkN c (decide (c * c = na * 2 ^ 131)) ≠ 0)) (mkN c (decide (c * c = na * 2 ^ 131))) ((ea - 131) / 2 - 1) ∧ Below w3.heap.size w3 w') := fun w3 h3 => marked_any false _ _ _ q w3 h3 (by omega) (by omega) (by omega)
    clear hW2 hb3 C0 C2 D0 hn hqv hW3 hroot lup lc hla
    have HP : Hid (∀ w4 x, NumV w4 x (false && decide (mkN c (decide (c * c = na * 2 ^ 131)) ≠ 0)) (mkN c (decide (c * c = na * 2 ^ 131))) ((ea - 131) / 2 - 1) → IsRoot (na * 2 ^ rkT ea) c ∧ NumV w4 x false (mkN c (decide (c * c = na * 2 ^ rkT ea))) ((ea - rkT ea) / 2 - 1)) := by
      intro w4 x h
      rw [HK.out]
      exact ⟨HRoot.out, h⟩
    clear HRoot HK
    generalize decide (c * c = na * 2 ^ 131) = wh at *
    go_wp2_with fail
    refine Calls.mono (HMK.out _ HV.out) ?_
    rintro ev w4 ⟨x, rfl, ⟨vo, vl, vc, rfl, hvl, hvn⟩, hb4⟩
    have hbA : Below w.heap.size w w4 := HW3.out.trans (hb4.mono HW3.out.size)
    have HB2 : Hid (w4.heap[w.heap.size + 1]? = _) := blk_below HD2.out hb4
    obtain ⟨k20, k21, k22, k23, k24, k25⟩ := blk3 HB2.out
    have HBX : Hid (BoxT w4 (w.heap.size + 1) 92) := BoxT.of HB2.out
    have HB4 : Hid (Below w.heap.size w w4) := hbA
    have HVL : Hid (vl = (digits (mkN c wh)).length) := hvl
    have HVN : Hid (NatV w4 (.slice vo vl vc) (mkN c wh)) := hvn
    clear hb4 hbA hvl hvn HMK HV HW3 HD2 k00 k01 k02
    go_wp2_with fail
    refine bodyPost_ret (v := .agg #[.bool (false && decide (mkN c wh ≠ 0)), .slice vo vl vc, .int .i64 ((ea - 131) / 2 - 1)]) (by simp [results, Tryz.results70, go_sem, k20, k21, k22]) rfl ?_
    have K : Keeps w4 (((w4.setCell ⟨w.heap.size + 1, 0, none⟩ (.bool (false && decide (mkN c wh ≠ 0)))).setCell ⟨w.heap.size + 1, 1, none⟩ (.slice vo vl vc)).setCell ⟨w.heap.size + 1, 2, none⟩ (.int .i64 ((ea - 131) / 2 - 1))) := (((Keeps.refl w4).set HBX.out (by decide)).set HBX.out.set (by decide)).set HBX.out.set.set (by decide)
    obtain ⟨z1, z2⟩ := HP.out _ _ ⟨_, _, _, rfl, HVL.out, HVN.out.keeps K⟩
    exact ⟨_, c, rfl, z1, z2, ((HB4.out.setCell (by simp) _).setCell (by simp) _).setCell (by simp) _⟩
end Go.Proofs.YtonhpkigoplmaaaGreatDoor
namespace Go.Proofs.YtonhpkigoplmaaaGreatDoor
open Go.RowKit

theorem blk_store6 {W : World} {g : Nat} {a b c d e f a' b' c' d' e' f' : Value} {t : TypeId} (h : W.heap[g]? = some (.cells #[a', b', c', d', e', f'] t (0, 0))) :
    ((((((W.setCell ⟨g, 0, none⟩ a).setCell ⟨g, 1, none⟩ b).setCell ⟨g, 2, none⟩ c).setCell ⟨g, 3, none⟩ d).setCell ⟨g, 4, none⟩ e).setCell ⟨g, 5, none⟩ f).heap[g]? = some (.cells #[a, b, c, d, e, f] t (0, 0)) := by
  simp [World.setCell, Array.getElem?_modify, h]

theorem blk6 {W : World} {g : Nat} {a b c d e f : Value} {t : TypeId} (h : W.heap[g]? = some (.cells #[a, b, c, d, e, f] t (0, 0))) :
    W.cell? ⟨g, 0, none⟩ = some a ∧ W.cell? ⟨g, 1, none⟩ = some b ∧ W.cell? ⟨g, 2, none⟩ = some c ∧ W.cell? ⟨g, 3, none⟩ = some d ∧ W.cell? ⟨g, 4, none⟩ = some e ∧ W.cell? ⟨g, 5, none⟩ = some f ∧ W.frozen? ⟨g, 0, none⟩ = false ∧ W.frozen? ⟨g, 1, none⟩ = false ∧ W.frozen? ⟨g, 2, none⟩ = false ∧ W.frozen? ⟨g, 3, none⟩ = false ∧ W.frozen? ⟨g, 4, none⟩ = false ∧ W.frozen? ⟨g, 5, none⟩ = false :=
  ⟨by simp [World.cell?, h], by simp [World.cell?, h], by simp [World.cell?, h], by simp [World.cell?, h], by simp [World.cell?, h], by simp [World.cell?, h], by simp [World.frozen?, h], by simp [World.frozen?, h], by simp [World.frozen?, h], by simp [World.frozen?, h], by simp [World.frozen?, h], by simp [World.frozen?, h]⟩

/-- A plain float's number; 0 for what is none. -/
def plT (b : Nat) : Bool × Nat × Int := (plainN b).getD (false, 0, 0)

/-- A value of type Ival: two numbers. -/
def IvV (w : World) (v : Value) (x y : Bool × Nat × Int) : Prop :=
  ∃ ao la ca bo lb cb, v = .agg #[.bool x.1, .slice ao la ca, .int .i64 x.2.2, .bool y.1, .slice bo lb cb, .int .i64 y.2.2] ∧ la = (digits x.2.1).length ∧ lb = (digits y.2.1).length ∧ NatV w (.slice ao la ca) x.2.1 ∧ NatV w (.slice bo lb cb) y.2.1

theorem posW_lt {b : Nat} (h : b < 18446744073709551616) : posW b < 18446744073709551616 := by unfold posW; split <;> omega

theorem makeN_lt1 {lo hi : Nat} (h : lo < 18446744073709551616) : (makeN lo hi).1 < 18446744073709551616 := by
  unfold makeN
  split
  · show (0 : Nat) < _
    omega
  · split
    · show (0 : Nat) < _
      omega
    · exact posW_lt h

theorem makeN_lt2 {lo hi : Nat} (h : hi < 18446744073709551616) : (makeN lo hi).2.1 < 18446744073709551616 := by
  unfold makeN
  split
  · show (0 : Nat) < _
    omega
  · split
    · show (0 : Nat) < _
      omega
    · exact posW_lt h

set_option maxHeartbeats 1000000 in
set_option maxRecDepth 100000 in
theorem refMade_any (lo hi : Nat) (w : World) (h1 : lo < 18446744073709551616) (h2 : hi < 18446744073709551616) :
    Calls Tryz.prog 60 #[.agg #[.int .u64 (lo : Int), .int .u64 (hi : Int)]] w fun e w' => ∃ v, e = .returned v ∧ IvV w' v (plT (makeN lo hi).1) (plT (makeN lo hi).2.1) ∧ Below w.heap.size w w' := by
  have HM : Hid (∀ w, Calls Tryz.prog 27 #[.agg #[.int .u64 (lo : Int), .int .u64 (hi : Int)]] w fun e w' => e = .returned (.tuple #[.agg #[.int .u64 ((makeN lo hi).1 : Int), .int .u64 ((makeN lo hi).2.1 : Int)], .int .i64 ((makeN lo hi).2.2 : Int)]) ∧ Below w.heap.size w w') := fun w => refMake_any lo hi w h1 h2
  have hm1 : (makeN lo hi).1 < 18446744073709551616 := makeN_lt1 h1
  have hm2 : (makeN lo hi).2.1 < 18446744073709551616 := makeN_lt2 h2
  have HP1 : Hid (∀ w, Calls Tryz.prog 57 #[.int .u64 ((makeN lo hi).1 : Int)] w fun ev w' => ∃ x ok, ev = .returned (.tuple #[x, .bool ok]) ∧ NumV w' x (plT (makeN lo hi).1).1 (plT (makeN lo hi).1).2.1 (plT (makeN lo hi).1).2.2 ∧ Below w.heap.size w w') := fun w => (plain_any _ w hm1).mono (fun ev w' h => by obtain ⟨x, h1, h2, h3⟩ := h; exact ⟨x, _, h1, h2, h3⟩)
  have HP2 : Hid (∀ w, Calls Tryz.prog 57 #[.int .u64 ((makeN lo hi).2.1 : Int)] w fun ev w' => ∃ x ok, ev = .returned (.tuple #[x, .bool ok]) ∧ NumV w' x (plT (makeN lo hi).2.1).1 (plT (makeN lo hi).2.1).2.1 (plT (makeN lo hi).2.1).2.2 ∧ Below w.heap.size w w') := fun w => (plain_any _ w hm2).mono (fun ev w' h => by obtain ⟨x, h1, h2, h3⟩ := h; exact ⟨x, _, h1, h2, h3⟩)
  clear h1 h2 hm1 hm2
  go_enter Tryz.func60, Tryz.ntmps60
  go_wp2_with fail
  have B1 := blk_new (w.alloc (Obj.cells #[.int .u64 (lo : Int), .int .u64 (hi : Int)] 28)) (Obj.cells #[.bool false, .slice none 0 0, .int .i64 0, .bool false, .slice none 0 0, .int .i64 0] 98)
  have hW : Below w.heap.size w ((w.alloc (Obj.cells #[.int .u64 (lo : Int), .int .u64 (hi : Int)] 28)).alloc (Obj.cells #[.bool false, .slice none 0 0, .int .i64 0, .bool false, .slice none 0 0, .int .i64 0] 98)) := ((Below.refl _ _).alloc (Nat.le_refl _) _).alloc (by simp) _
  simp only [World.size_alloc] at B1
  generalize ((w.alloc (Obj.cells #[.int .u64 (lo : Int), .int .u64 (hi : Int)] 28)).alloc (Obj.cells #[.bool false, .slice none 0 0, .int .i64 0, .bool false, .slice none 0 0, .int .i64 0] 98)) = W2 at *
  refine Calls.mono (HM.out _) ?_
  rintro ev w1 ⟨rfl, hb1⟩
  have hW1 : Below w.heap.size w w1 := hW.trans (hb1.mono hW.size)
  have C1 := blk_below B1 hb1
  clear hb1 hW B1
  have C0 := blk_new w1 (Obj.cells #[.int .u64 ((makeN lo hi).1 : Int), .int .u64 ((makeN lo hi).2.1 : Int)] 28)
  have C1' := blk_old C1 (Obj.cells #[.int .u64 ((makeN lo hi).1 : Int), .int .u64 ((makeN lo hi).2.1 : Int)] 28)
  have hW1' := hW1.alloc hW1.size (Obj.cells #[.int .u64 ((makeN lo hi).1 : Int), .int .u64 ((makeN lo hi).2.1 : Int)] 28)
  go_wp2_with fail
  generalize (w1.alloc (Obj.cells #[.int .u64 ((makeN lo hi).1 : Int), .int .u64 ((makeN lo hi).2.1 : Int)] 28)) = W3 at *
  refine Calls.mono (HP1.out _) ?_
  rintro ev w2 ⟨x, ok1, rfl, ⟨ao, la, ca, rfl, hla, hna⟩, hb2⟩
  have HLA : Hid (la = (digits (plT (makeN lo hi).1).2.1).length) := hla
  have hW2 : Below w.heap.size w w2 := hW1'.trans (hb2.mono hW1'.size)
  have D0 := blk_below C0 hb2
  have D1 := blk_below C1' hb2
  obtain ⟨m0, m1, -, -⟩ := blk2 D0
  have hlt := lt_of_cell m1
  have E1 := blk_old D1 (Obj.cells #[.bool (plT (makeN lo hi).1).1, .slice ao la ca, .int .i64 (plT (makeN lo hi).1).2.2] 92)
  have E2 := blk_new w2 (Obj.cells #[.bool (plT (makeN lo hi).1).1, .slice ao la ca, .int .i64 (plT (makeN lo hi).1).2.2] 92)
  have hW3 := hW2.alloc hW2.size (Obj.cells #[.bool (plT (makeN lo hi).1).1, .slice ao la ca, .int .i64 (plT (makeN lo hi).1).2.2] 92)
  have hna3 := hna.below ((Below.refl _ w2).alloc (Nat.le_refl _) (Obj.cells #[.bool (plT (makeN lo hi).1).1, .slice ao la ca, .int .i64 (plT (makeN lo hi).1).2.2] 92)) (Nat.le_refl _)
  clear hb2 hW1' C0 C1' C1 hW1 m0 hla D1
  go_wp2_with fail
  clear hlt m1 D0 hW2 hna
  generalize (w2.alloc (Obj.cells #[.bool (plT (makeN lo hi).1).1, .slice ao la ca, .int .i64 (plT (makeN lo hi).1).2.2] 92)) = W4 at *
  refine Calls.mono (HP2.out _) ?_
  rintro ev w5 ⟨x, ok2, rfl, ⟨bo, lb, cb, rfl, hlb, hnb⟩, hb5⟩
  have HLB : Hid (lb = (digits (plT (makeN lo hi).2.1).2.1).length) := hlb
  have hW5 : Below w.heap.size w w5 := hW3.trans (hb5.mono hW3.size)
  have F1 := blk_below E1 hb5
  have F2 := blk_below E2 hb5
  have hna5 := hna3.below hb5 (Nat.le_refl _)
  obtain ⟨m0, m1, m2, -, -, -⟩ := blk3 F2
  have hlt := lt_of_cell m0
  have hlt2 := lt_of_row F1
  have S1 := blk_store6 (a := .bool (plT (makeN lo hi).1).1) (b := .slice ao la ca) (c := .int .i64 (plT (makeN lo hi).1).2.2) (d := .bool (plT (makeN lo hi).2.1).1) (e := .slice bo lb cb) (f := .int .i64 (plT (makeN lo hi).2.1).2.2) F1
  obtain ⟨q0, q1, q2, q3, q4, q5, -, -, -, -, -, -⟩ := blk6 (blk_old S1 (Obj.cells #[.bool (plT (makeN lo hi).2.1).1, .slice bo lb cb, .int .i64 (plT (makeN lo hi).2.1).2.2] 92))
  obtain ⟨k0, k1, k2, k3, k4, k5, f0, f1, f2, f3, f4, f5⟩ := blk6 F1
  have b0 : BoxT w5 (w.heap.size + 1) 98 := BoxT.of F1
  have K := ((((((Keeps.refl w5).set (j := 0) (u := .bool (plT (makeN lo hi).1).1) b0 (by decide)).set (j := 1) (u := .slice ao la ca) b0.set (by decide)).set (j := 2) (u := .int .i64 (plT (makeN lo hi).1).2.2) b0.set.set (by decide)).set (j := 3) (u := .bool (plT (makeN lo hi).2.1).1) b0.set.set.set (by decide)).set (j := 4) (u := .slice bo lb cb) b0.set.set.set.set (by decide)).set (j := 5) (u := .int .i64 (plT (makeN lo hi).2.1).2.2) b0.set.set.set.set.set (by decide)
  have K2 := K.trans (Keeps.alloc ((((((w5.setCell ⟨w.heap.size + 1, 0, none⟩ (.bool (plT (makeN lo hi).1).1)).setCell ⟨w.heap.size + 1, 1, none⟩ (.slice ao la ca)).setCell ⟨w.heap.size + 1, 2, none⟩ (.int .i64 (plT (makeN lo hi).1).2.2)).setCell ⟨w.heap.size + 1, 3, none⟩ (.bool (plT (makeN lo hi).2.1).1)).setCell ⟨w.heap.size + 1, 4, none⟩ (.slice bo lb cb)).setCell ⟨w.heap.size + 1, 5, none⟩ (.int .i64 (plT (makeN lo hi).2.1).2.2)) (Obj.cells #[.bool (plT (makeN lo hi).2.1).1, .slice bo lb cb, .int .i64 (plT (makeN lo hi).2.1).2.2] 92))
  have HNA : Hid (NatV (((((((w5.setCell ⟨w.heap.size + 1, 0, none⟩ (.bool (plT (makeN lo hi).1).1)).setCell ⟨w.heap.size + 1, 1, none⟩ (.slice ao la ca)).setCell ⟨w.heap.size + 1, 2, none⟩ (.int .i64 (plT (makeN lo hi).1).2.2)).setCell ⟨w.heap.size + 1, 3, none⟩ (.bool (plT (makeN lo hi).2.1).1)).setCell ⟨w.heap.size + 1, 4, none⟩ (.slice bo lb cb)).setCell ⟨w.heap.size + 1, 5, none⟩ (.int .i64 (plT (makeN lo hi).2.1).2.2)).alloc (Obj.cells #[.bool (plT (makeN lo hi).2.1).1, .slice bo lb cb, .int .i64 (plT (makeN lo hi).2.1).2.2] 92)) (.slice ao la ca) (plT (makeN lo hi).1).2.1) := hna5.keeps K2
  have HNB : Hid (NatV (((((((w5.setCell ⟨w.heap.size + 1, 0, none⟩ (.bool (plT (makeN lo hi).1).1)).setCell ⟨w.heap.size + 1, 1, none⟩ (.slice ao la ca)).setCell ⟨w.heap.size + 1, 2, none⟩ (.int .i64 (plT (makeN lo hi).1).2.2)).setCell ⟨w.heap.size + 1, 3, none⟩ (.bool (plT (makeN lo hi).2.1).1)).setCell ⟨w.heap.size + 1, 4, none⟩ (.slice bo lb cb)).setCell ⟨w.heap.size + 1, 5, none⟩ (.int .i64 (plT (makeN lo hi).2.1).2.2)).alloc (Obj.cells #[.bool (plT (makeN lo hi).2.1).1, .slice bo lb cb, .int .i64 (plT (makeN lo hi).2.1).2.2] 92)) (.slice bo lb cb) (plT (makeN lo hi).2.1).2.1) := hnb.keeps K2
  have HW6 : Hid (Below w.heap.size w (((((((w5.setCell ⟨w.heap.size + 1, 0, none⟩ (.bool (plT (makeN lo hi).1).1)).setCell ⟨w.heap.size + 1, 1, none⟩ (.slice ao la ca)).setCell ⟨w.heap.size + 1, 2, none⟩ (.int .i64 (plT (makeN lo hi).1).2.2)).setCell ⟨w.heap.size + 1, 3, none⟩ (.bool (plT (makeN lo hi).2.1).1)).setCell ⟨w.heap.size + 1, 4, none⟩ (.slice bo lb cb)).setCell ⟨w.heap.size + 1, 5, none⟩ (.int .i64 (plT (makeN lo hi).2.1).2.2)).alloc (Obj.cells #[.bool (plT (makeN lo hi).2.1).1, .slice bo lb cb, .int .i64 (plT (makeN lo hi).2.1).2.2] 92))) := ((((((hW5.setCell (by simp) _).setCell (by simp) _).setCell (by simp) _).setCell (by simp) _).setCell (by simp) _).setCell (by simp) _).alloc (by have := hW5.size; simp; omega) _
  clear hb5 hW3 E1 E2 hna3 hlb F1 F2 hW5 hna5 hnb HP1 HP2 HM K K2 b0 S1
  go_wp2_with fail
  refine bodyPost_ret (v := .agg #[.bool (plT (makeN lo hi).1).1, .slice ao la ca, .int .i64 (plT (makeN lo hi).1).2.2, .bool (plT (makeN lo hi).2.1).1, .slice bo lb cb, .int .i64 (plT (makeN lo hi).2.1).2.2]) (by simp [results, Tryz.results60, go_sem, q0, q1, q2, q3, q4, q5]) rfl ?_
  exact ⟨_, rfl, ⟨_, _, _, _, _, _, rfl, HLA.out, HLB.out, HNA.out, HNB.out⟩, HW6.out⟩
end Go.Proofs.YtonhpkigoplmaaaGreatDoor
