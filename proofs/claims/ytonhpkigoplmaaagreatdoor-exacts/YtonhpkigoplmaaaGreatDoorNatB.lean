/-
  encloseref.trim, cmp.
-/
import Derived.Test.YtonhpkigoplmaaaGreatDoorNatA
import Derived.BigQuiet
import Derived.WalkSmall
import Derived.Deep.QuietTactic
namespace Go.Proofs.YtonhpkigoplmaaaGreatDoor
open Go.RowKit

theorem take_snoc_getD (l : List Nat) (j : Nat) (h : j < l.length) : l.take (j + 1) = l.take j ++ [l.getD j 0] := by
  rw [List.take_succ_eq_append_getElem h]; simp [List.getD, List.getElem?_eq_getElem h]

theorem trim_step {l : List Nat} {j : Nat} (h : nval (l.take (j + 1)) = nval l) (hj : j + 1 ≤ l.length) (hz : l.getD j 0 = 0) : nval (l.take j) = nval l := by
  rw [take_snoc_getD l j hj, nval_snoc, hz] at h; omega

theorem trim_done {l : List Nat} {k : Nat} (h : nval (l.take k) = nval l) (hd : ∀ d ∈ l, d < 16777216) (hk : k ≤ l.length) (hz : k = 0 ∨ l.getD (k - 1) 0 ≠ 0) : digits (nval l) = l.take k := by
  rw [← h]
  refine digits_of _ (fun d hm => hd d (List.mem_of_mem_take hm)) ?_
  rcases hz with rfl | hz
  · simp [Canon]
  · rcases Nat.eq_zero_or_pos k with rfl | hp
    · simp [Canon]
    · obtain ⟨j, rfl⟩ : ∃ j, k = j + 1 := ⟨k - 1, by omega⟩
      rw [take_snoc_getD l j hk]
      exact canon_snoc (by simpa using hz)

theorem dig_take {w : World} {l : List Nat} {b off cap k : Nat} {cur : Array Value} (hbl : w.heap[b]? = some (.cells cur 3 (0, 0))) (hcap : l.length ≤ cap) (hk : k ≤ l.length) (hd : ∀ d ∈ l, d < 16777216)
    (hcell : ∀ i, i < l.length → cur[off + i]? = some (.int .i64 (l.getD i 0 : Nat))) : Dig w (.slice (some ⟨b, off, none⟩) k cap) (l.take k) := by
  have hl : (l.take k).length = k := by simp; omega
  refine ⟨fun d hm => hd d (List.mem_of_mem_take hm), Or.inr ⟨b, off, cap, cur, by rw [hl], hbl, by rw [hl]; omega, fun i hi => ?_⟩⟩
  rw [hl] at hi
  rw [hcell i (by omega)]
  simp [List.getD, hi]

theorem trim_any (l : List Nat) (v : Value) (w : World) (hD : Dig w v l) (hlen : l.length ≤ 2000000) :
    Calls Tryz.prog 164 #[v] w fun e w' => ∃ v', e = .returned v' ∧ NatV w v' (nval l) ∧ w' = w := by
  obtain ⟨hd, hD⟩ := hD
  rcases hD with ⟨rfl, rfl⟩ | ⟨b, off, cap, cur, rfl, hbl, hcap, hcell⟩
  · go_enter Tryz.func164, Tryz.ntmps164
    go_wp2
    refine wp_loop_rounds 1 ?_
    rw [rounds_succ]
    go_wp2
    go_ret
    exact ⟨_, rfl, ⟨by simp [nval, digits_zero], Or.inl ⟨rfl, rfl⟩⟩, rfl⟩
  · have HD : Hid (∀ d ∈ l, d < 16777216) := hd
    clear hd
    have HC : Hid (∀ i, i < l.length → cur[off + i]? = some (.int .i64 (l.getD i 0 : Nat))) := hcell
    have HBL : Hid (w.heap[b]? = some (.cells cur 3 (0, 0))) := hbl
    clear hcell hbl
    go_enter Tryz.func164, Tryz.ntmps164
    go_wp2
    go_loop [3] (fun x => ∃ k : Nat, k ≤ l.length ∧ x = .int .i64 (k : Int) ∧ nval (l.take k) = nval l) (fun x => (intOf x).toNat)
    case atStart => exact ⟨l.length, Nat.le_refl _, rfl, by rw [List.take_length]⟩
    case round =>
      obtain ⟨k, hk, rfl, hv⟩ := hrel
      have HV : Hid (nval (l.take k) = nval l) := hv
      clear hv
      by_cases hk0 : k = 0
      · subst hk0
        go_wp2
        go_ret
        refine ⟨_, rfl, ?_, rfl⟩
        have := trim_done HV.out HD.out (by omega) (Or.inl rfl)
        unfold NatV
        rw [this]
        exact dig_take HBL.out hcap (by omega) HD.out HC.out
      · obtain ⟨j, rfl⟩ : ∃ j, k = j + 1 := ⟨k - 1, by omega⟩
        have hc := (cell_of_cur HBL.out (off + j)).trans (HC.out j (by omega))
        generalize hdj : l.getD j 0 = d at hc
        have Hdj : Hid (l.getD j 0 = d) := hdj
        clear hdj
        by_cases hz : d = 0
        · subst hz
          go_wp2
          go_round
          case rel => exact ⟨j, by omega, by go_num, trim_step HV.out hk Hdj.out⟩
          case measure => simp [intOf]
        · have hz' : ((d : Int) == 0) = false := by simp; omega
          go_wp2
          go_ret
          refine ⟨_, rfl, ?_, rfl⟩
          have := trim_done HV.out HD.out hk (Or.inr (by rw [show j + 1 - 1 = j from rfl, Hdj.out]; exact hz))
          unfold NatV
          rw [this]
          exact dig_take HBL.out hcap hk HD.out HC.out

/-- How two natural numbers stand, as cmp tells it. -/
def cmpI (a b : Nat) : Int := if a < b then -1 else if a = b then 0 else 1

theorem lt_of_len {a b : Nat} (h : (digits a).length < (digits b).length) : a < b := by
  have h1 := lt_pow_len a
  have hb : digits b ≠ [] := fun e => by rw [e] at h; simp at h
  have h2 := le_nval hb (canon_digits b)
  rw [nval_digits] at h2
  have h3 : 16777216 ^ (digits a).length ≤ 16777216 ^ ((digits b).length - 1) := Nat.pow_le_pow_right (by decide) (by omega)
  omega

theorem nval_split (l : List Nat) (i : Nat) (h : i < l.length) : nval l = nval (l.take i) + 16777216 ^ i * (l.getD i 0 + 16777216 * nval (l.drop (i + 1))) := by
  have e : l = l.take i ++ (l.getD i 0 :: l.drop (i + 1)) := by
    have : l.drop i = l.getD i 0 :: l.drop (i + 1) := by
      rw [List.drop_eq_getElem_cons h]; simp [List.getD, List.getElem?_eq_getElem h]
    rw [← this, List.take_append_drop]
  conv => lhs; rw [e]
  rw [nval_append]
  simp only [nval, List.length_take]
  rw [Nat.min_eq_left (Nat.le_of_lt h)]

theorem cmp_lt {x y : List Nat} {i : Nat} (hx : i < x.length) (hy : i < y.length) (hdx : ∀ d ∈ x, d < 16777216) (ht : x.drop (i + 1) = y.drop (i + 1)) (hlt : x.getD i 0 < y.getD i 0) : nval x < nval y := by
  rw [nval_split x i hx, nval_split y i hy, ht]
  have h1 := nval_lt (x.take i) (fun d hm => hdx d (List.mem_of_mem_take hm))
  have hl : (x.take i).length = i := by simp; omega
  rw [hl] at h1
  have h2 : 16777216 ^ i * (x.getD i 0 + 16777216 * nval (y.drop (i + 1)) + 1) ≤ 16777216 ^ i * (y.getD i 0 + 16777216 * nval (y.drop (i + 1))) := Nat.mul_le_mul_left _ (by omega)
  rw [Nat.mul_add _ _ 1] at h2
  omega

theorem drop_step {x y : List Nat} {j : Nat} (hx : j < x.length) (hy : j < y.length) (ht : x.drop (j + 1) = y.drop (j + 1)) (he : x.getD j 0 = y.getD j 0) : x.drop j = y.drop j := by
  rw [List.drop_eq_getElem_cons hx, List.drop_eq_getElem_cons hy, ht]
  simp only [List.getD, List.getElem?_eq_getElem hx, List.getElem?_eq_getElem hy, Option.getD_some] at he
  rw [he]

theorem Dig.open {w : World} {v : Value} {l : List Nat} (h : Dig w v l) : ∃ ao cap, v = .slice ao l.length cap ∧ l.length ≤ cap ∧ (l.length = 0 ∨ ∃ b off, ao = some ⟨b, off, none⟩ ∧ b < w.heap.size ∧ ∀ i, i < l.length → w.cell? ⟨b, off + i, none⟩ = some (.int .i64 (l.getD i 0 : Nat))) := by
  obtain ⟨_, h⟩ := h
  rcases h with ⟨rfl, rfl⟩ | ⟨b, off, cap, cur, rfl, h1, h2, h3⟩
  · exact ⟨none, 0, rfl, by simp, Or.inl rfl⟩
  · exact ⟨_, _, rfl, h2, Or.inr ⟨b, off, rfl, (Array.getElem?_eq_some_iff.1 h1).1, fun i hi => (cell_of_cur h1 _).trans (h3 i hi)⟩⟩

theorem cmp_ne (x y : List Nat) (va vb : Value) (w : World) (hx : Dig w va x) (hy : Dig w vb y) (_hlx : x.length ≤ 1000000) (_hly : y.length ≤ 1000000) (h : x.length ≠ y.length) :
    Calls Tryz.prog 118 #[va, vb] w fun e w' => e = .returned (.int .i64 (if x.length < y.length then -1 else 1)) ∧ Below w.heap.size w w' := by
  obtain ⟨ao, ca, rfl, hca, ha⟩ := hx.open
  obtain ⟨bo, cb, rfl, hcb, hb⟩ := hy.open
  clear ha hb hx hy
  have h1 : ((x.length : Int) != (y.length : Int)) = true := by rw [bne_iff_ne]; omega
  by_cases hl : x.length < y.length
  · rw [if_pos hl]
    go_enter Tryz.func118, Tryz.ntmps118
    go_wp2
    go_ret
    exact ⟨rfl, Below.refl _ _⟩
  · rw [if_neg hl]
    go_enter Tryz.func118, Tryz.ntmps118
    go_wp2
    go_ret
    exact ⟨rfl, Below.refl _ _⟩

set_option maxHeartbeats 1000000 in
theorem cmp_eq (x y : List Nat) (va vb : Value) (w : World) (hx : Dig w va x) (hy : Dig w vb y) (hlx : x.length ≤ 1000000) (h : x.length = y.length) :
    Calls Tryz.prog 118 #[va, vb] w fun e w' => e = .returned (.int .i64 (cmpI (nval x) (nval y))) ∧ Below w.heap.size w w' := by
  have hdx := hx.1
  have hdy := hy.1
  obtain ⟨ao, ca, rfl, hca, ha⟩ := hx.open
  obtain ⟨bo, cb, rfl, hcb, hb⟩ := hy.open
  clear hx hy
  obtain ⟨n, hn⟩ : ∃ n, y.length = n := ⟨_, rfl⟩
  rw [h] at hlx hca ha ⊢
  rw [hn] at h hlx hca ha hcb hb ⊢
  have HX : Hid (x.length = n) := h
  have HY : Hid (y.length = n) := hn
  have HDX : Hid (∀ d ∈ x, d < 16777216) := hdx
  have HDY : Hid (∀ d ∈ y, d < 16777216) := hdy
  clear h hn hdx hdy
  by_cases hx0 : n = 0
  · subst hx0
    have hx : x = [] := List.length_eq_zero_iff.1 HX.out
    have hy : y = [] := List.length_eq_zero_iff.1 HY.out
    subst hx hy
    clear ha hb HX HY HDX HDY
    go_enter Tryz.func118, Tryz.ntmps118
    go_wp2
    refine wp_loop_rounds 1 ?_
    rw [rounds_succ]
    go_wp2
    go_ret
    exact ⟨rfl, Below.refl _ _⟩
  · obtain ⟨b1, o1, rfl, hb1, hc1⟩ := ha.resolve_left hx0
    obtain ⟨b2, o2, rfl, hb2, hc2⟩ := hb.resolve_left hx0
    clear ha hb
    have HC1 : Hid (∀ i, i < n → w.cell? ⟨b1, o1 + i, none⟩ = some (.int .i64 (x.getD i 0 : Nat))) := hc1
    have HC2 : Hid (∀ i, i < n → w.cell? ⟨b2, o2 + i, none⟩ = some (.int .i64 (y.getD i 0 : Nat))) := hc2
    clear hc1 hc2
    go_enter Tryz.func118, Tryz.ntmps118
    go_wp2
    go_loopw [5] (fun v wr => ∃ k : Nat, k ≤ n ∧ v = .int .i64 ((k : Int) - 1) ∧ x.drop k = y.drop k ∧ Below w.heap.size w wr) (fun v _ => (intOf v + 1).toNat)
    case atStart => exact ⟨n, Nat.le_refl _, rfl, by rw [List.drop_of_length_le (by rw [HX.out]; exact Nat.le_refl _), List.drop_of_length_le (by rw [HY.out]; exact Nat.le_refl _)], Below.refl _ _⟩
    case round =>
      obtain ⟨k, hk, rfl, ht, hbr⟩ := hrel
      have HT : Hid (x.drop k = y.drop k) := ht
      clear ht
      by_cases hk0 : k = 0
      · subst hk0
        go_wp2
        go_ret
        have e : x = y := by simpa using HT.out
        exact ⟨by rw [e]; simp [cmpI], hbr⟩
      · obtain ⟨j, rfl⟩ : ∃ j, k = j + 1 := ⟨k - 1, by omega⟩
        rw [show ((j + 1 : Nat) : Int) - 1 = (j : Int) by omega]
        have c1 := (hbr.cell (p := ⟨b1, o1 + j, none⟩) hb1).trans (HC1.out j (by omega))
        have c2 := (hbr.cell (p := ⟨b2, o2 + j, none⟩) hb2).trans (HC2.out j (by omega))
        have hx1 : Hid (j < x.length) := by show j < x.length; rw [HX.out]; omega
        have hy1 : Hid (j < y.length) := by show j < y.length; rw [HY.out]; omega
        generalize hp : x.getD j 0 = p at c1
        generalize hq : y.getD j 0 = q at c2
        have HP : Hid (x.getD j 0 = p) := hp
        have HQ : Hid (y.getD j 0 = q) := hq
        clear hp hq
        rcases Nat.lt_trichotomy p q with hpq | hpq | hpq
        · have t1 : ((p : Int) != (q : Int)) = true := by rw [bne_iff_ne]; omega
          go_wp2
          go_quiet (fail)
          go_wp2
          go_quiet (fail)
          go_wp2
          go_ret
          have r : cmpI (nval x) (nval y) = -1 := by
            have := cmp_lt hx1.out hy1.out HDX.out HT.out (by rw [HP.out, HQ.out]; exact hpq)
            unfold cmpI; rw [if_pos this]
          refine ⟨by rw [r]; rfl, ?_⟩
          repeat (first | exact hbr | refine below_drewN ?_ _)
        · subst hpq
          go_wp2
          go_quiet (fail)
          go_wp2
          go_roundw
          case rel =>
            refine ⟨j, by omega, by go_num, drop_step hx1.out hy1.out HT.out (by rw [HP.out, HQ.out]), ?_⟩
            repeat (first | exact hbr | refine below_drewN ?_ _)
          case measure => simp [intOf]
        · have t1 : ((p : Int) != (q : Int)) = true := by rw [bne_iff_ne]; omega
          go_wp2
          go_quiet (fail)
          go_wp2
          go_quiet (fail)
          go_wp2
          go_ret
          have r : cmpI (nval x) (nval y) = 1 := by
            have := cmp_lt hy1.out hx1.out HDY.out HT.out.symm (by rw [HP.out, HQ.out]; exact hpq)
            unfold cmpI; rw [if_neg (by omega), if_neg (by omega)]
          refine ⟨by rw [r]; rfl, ?_⟩
          repeat (first | exact hbr | refine below_drewN ?_ _)

theorem cmp_any (a b : Nat) (va vb : Value) (w : World) (ha : NatV w va a) (hb : NatV w vb b) (hla : (digits a).length ≤ 1000000) (hlb : (digits b).length ≤ 1000000) :
    Calls Tryz.prog 118 #[va, vb] w fun e w' => e = .returned (.int .i64 (cmpI a b)) ∧ Below w.heap.size w w' := by
  by_cases h : (digits a).length = (digits b).length
  · have := cmp_eq _ _ va vb w ha hb hla h
    rwa [nval_digits, nval_digits] at this
  · have := cmp_ne _ _ va vb w ha hb hla hlb h
    have e : (if (digits a).length < (digits b).length then (-1 : Int) else 1) = cmpI a b := by
      unfold cmpI
      by_cases hl : (digits a).length < (digits b).length
      · rw [if_pos hl, if_pos (lt_of_len hl)]
      · have := lt_of_len (a := b) (b := a) (by omega)
        rw [if_neg hl, if_neg (by omega), if_neg (by omega)]
    rwa [e] at this
end Go.Proofs.YtonhpkigoplmaaaGreatDoor
