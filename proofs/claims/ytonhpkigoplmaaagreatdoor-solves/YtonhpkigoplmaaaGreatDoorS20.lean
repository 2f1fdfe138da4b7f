/-
  LawU, LawC, LawS, Laid, SolvesProof.
-/
import Derived.Test.YtonhpkigoplmaaaGreatDoorS19
import Derived.Test.YtonhpkigoplmaaaGreatDoorS10
import Derived.Test.YtonhpkigoplmaaaGreatDoorS03
import Derived.LaidLaws
import Derived.LaidHandle
import Derived.Stop.LaidTwo
import Derived.Test.YtonhpkigoplmaaaGreatDoorRows
import Derived.Test.YtonhpkigoplmaaaGreatDoorCards
import Derived.Test.YtonhpkigoplmaaaGreatDoorTie
import Derived.Test.YtonhpkigoplmaaaGreatDoorS11
import Derived.ProofKit
import Derived.LaidMore
import Derived.OpenShut
import Derived.Stop.Joined
import Derived.SevenTiedAt
import Derived.SizedLaws
namespace Go.Proofs.YtonhpkigoplmaaaGreatDoor
open Go.RowKit Go.Extern Ieee

theorem ofInt_n2 (n : Int) : (BitVec.ofInt 64 n).toNat = (n % 18446744073709551616).toNat := by
  rw [BitVec.toNat_ofInt]; rfl
theorem i64_lo1 (n : Int) : bits .and .i64 n 1 = n % 2 := by
  show IntKind.i64.wrap ((BitVec.ofInt 64 n &&& BitVec.ofInt 64 1).toNat : Int) = _
  rw [BitVec.toNat_and, ofInt_n2, ofInt_n2, IntKind.wrap_i64, show ((1 : Int) % 18446744073709551616).toNat = 1 by decide]
  have : (n % 18446744073709551616).toNat &&& 1 = (n % 18446744073709551616).toNat % 2 := Nat.and_two_pow_sub_one_eq_mod _ 1
  rw [this]
  omega
theorem i64_lo2 (n : Int) : bits .and .i64 n 3 = n % 4 := by
  show IntKind.i64.wrap ((BitVec.ofInt 64 n &&& BitVec.ofInt 64 3).toNat : Int) = _
  rw [BitVec.toNat_and, ofInt_n2, ofInt_n2, IntKind.wrap_i64, show ((3 : Int) % 18446744073709551616).toNat = 3 by decide]
  have : (n % 18446744073709551616).toNat &&& 3 = (n % 18446744073709551616).toNat % 4 := Nat.and_two_pow_sub_one_eq_mod _ 2
  rw [this]
  omega

theorem judge_any (ao bo oo : Option Addr) (na ac d nb bc len oc k : Nat) (P Qb xs : Nat → Nat × Nat) (pick : Int) (w : World) (hi : SolIs na d nb P Qb k len xs) (hnb : nb < 4611686018427387904) (hna : na ≤ 100) (hd : d ≤ 5) (hP : BxV w ao na P) (hQ : BxV w bo nb Qb) (hO : BxV w oo len xs) (wP : Wds na P) (wQ : Wds nb Qb) (hz : len = 0 → oo = none ∧ oc = 0) :
    Calls Tryz.prog 86 #[.slice ao na ac, .int .i64 (d : Int), .slice bo nb bc, .slice oo len oc, .int .i64 (k : Int), .int .i64 pick] w fun e w' => e = .returned (.bool true) ∧ Below w.heap.size w w' := by
  rcases hi with ⟨hs, rfl, rfl⟩ | ⟨hs, ⟨ho, rfl, rfl⟩ | ⟨hno, ⟨hx, rfl, rfl⟩ | ⟨hx, rfl, rfl⟩⟩⟩
  · obtain ⟨rfl, rfl⟩ := hz rfl
    exact judge_shape ao bo na ac d nb bc pick w hnb hd hs
  · obtain ⟨rfl, rfl⟩ := hz rfl
    refine judge_range ao bo na ac d nb bc P Qb pick w hs.2.1 hna hd hP hQ wP wQ hs fun hr => ?_
    obtain ⟨y, x, hy, hx, h⟩ := ho
    rw [(range_iff hs wP wQ).2 hr y x hy hx] at h
    cases h
  · obtain ⟨rfl, rfl⟩ := hz rfl
    exact judge_unsure ao bo na ac d nb bc P Qb pick w hs.2.1 hna hd hP hQ wP wQ hs ((range_iff hs wP wQ).1 hno) hx
  · exact judge_good ao bo oo na ac d len bc oc P Qb xs pick w hs.2.1 hna hd hP hQ hO wP wQ hs ((range_iff hs wP wQ).1 hno) hx

theorem BxV.take {W : World} {ao : Option Addr} {n m : Nat} {xs : Nat → Nat × Nat} (h : BxV W ao n xs) (hm : m ≤ n) : BxV W ao m xs := by
  rcases h with h | ⟨g, off, e, hg, h⟩
  · exact .inl (by omega)
  · exact .inr ⟨g, off, e, hg, fun i hi => h i (by omega)⟩
theorem BxV.drop {W : World} {g off n m : Nat} {xs : Nat → Nat × Nat} (h : BxV W (some ⟨g, off, none⟩) n xs) (hm : m ≤ n) : BxV W (some ⟨g, off + m * 2, none⟩) (n - m) (fun i => xs (m + i)) := by
  rcases h with h | ⟨g', off', e, hg, h⟩
  · exact .inl (by omega)
  · cases e
    refine .inr ⟨g, off + m * 2, rfl, hg, fun i hi => ?_⟩
    have := h (m + i) (by omega)
    rw [show off + (m + i) * 2 = off + m * 2 + i * 2 by omega] at this
    exact this

theorem BxV.dropO {W : World} {ao : Option Addr} {n m c : Nat} {xs : Nat → Nat × Nat} (h : BxV W ao n xs) (hm : m ≤ n) (hc : n ≤ c) : BxV W (if c = m then ao else Option.map (fun x => x.add (m * 2)) ao) (n - m) (fun i => xs (m + i)) := by
  by_cases hcm : c = m
  · exact .inl (by omega)
  · rw [if_neg hcm]
    rcases id h with h0 | ⟨g, off, rfl, -⟩
    · exact .inl (by omega)
    · have e : (Addr.mk g off none).add (m * 2) = ⟨g, off + m * 2, none⟩ := by
        by_cases h0 : m = 0
        · subst h0; simp [Addr.add]
        · simp [Addr.add]
          omega
      rw [Option.map_some, e]
      exact h.drop hm

set_option maxHeartbeats 8000000 in
set_option maxRecDepth 100000 in
theorem solved_any (A : Nat → Addr) (a b : Int) (s : ByteArray) (xl xh yl yh : Nat) (po : Option Addr) (n pc : Nat) (ps : Nat → Nat) (w : World) (hS : Sents A w) (hw : WdV w po n ps) (hn : n * 8 ≤ 140737488355328) :
    Calls Tryz.prog 39 #[.agg #[Value.int IntKind.i64 7, Value.int IntKind.i64 a, Value.int IntKind.i64 b, Value.string s, Value.int IntKind.u64 (xl : Int), Value.int IntKind.u64 (xh : Int), Value.int IntKind.u64 (yl : Int), Value.int IntKind.u64 (yh : Int), Value.slice po n pc]] w fun e w' => e = .returned (.bool true) ∧ Below w.heap.size w w' := by
  have HB0 : Hid (∀ W, Below w.heap.size w W → Calls Tryz.prog 83 #[.slice po n pc] W fun e w' => ∃ bo bc, e = .returned (.slice bo (n / 2) bc) ∧ BxV w' bo (n / 2) (fun i => (ps (i * 2), ps (i * 2 + 1))) ∧ n / 2 ≤ bc ∧ Below W.heap.size W w') := fun W hW => boxed_any po n pc ps W (hw.below hW) hn
  have WD : Hid (Wds (n / 2) (fun i => (ps (i * 2), ps (i * 2 + 1)))) := fun i hi => ⟨hw.1 _ (by omega), hw.1 _ (by omega)⟩
  have HS := hid hS
  generalize (fun i => (ps (i * 2), ps (i * 2 + 1))) = F at *
  have hN : n / 2 * 16 ≤ 140737488355328 := by omega
  generalize n / 2 = N at *
  clear hS hw hn
  go_enter Tryz.func39, Tryz.ntmps39
  go_wp2_with fail
  have m1 : Hid (LSt w (w.alloc (Obj.cells #[Value.int IntKind.i64 7, Value.int IntKind.i64 a, Value.int IntKind.i64 b, Value.string s, Value.int IntKind.u64 (xl : Int), Value.int IntKind.u64 (xh : Int), Value.int IntKind.u64 (yl : Int), Value.int IntKind.u64 (yh : Int), Value.slice po n pc] 31)) #[Value.int IntKind.i64 7, Value.int IntKind.i64 a, Value.int IntKind.i64 b, Value.string s, Value.int IntKind.u64 (xl : Int), Value.int IntKind.u64 (xh : Int), Value.int IntKind.u64 (yl : Int), Value.int IntKind.u64 (yh : Int), Value.slice po n pc]) := ⟨blk_new w _, (Below.refl _ _).alloc (Nat.le_refl _) _, by simp⟩
  generalize (w.alloc (Obj.cells #[Value.int IntKind.i64 7, Value.int IntKind.i64 a, Value.int IntKind.i64 b, Value.string s, Value.int IntKind.u64 (xl : Int), Value.int IntKind.u64 (xh : Int), Value.int IntKind.u64 (yl : Int), Value.int IntKind.u64 (yh : Int), Value.slice po n pc] 31)) = W2 at *
  refine Calls.mono (HB0.out _ m1.out.hb) ?_
  rintro e w1 ⟨lo, lc, rfl, hx, hlc, hb1⟩
  have m1 := hid (m1.out.below hb1)
  have BX := hid hx
  clear hb1 hx HB0
  obtain ⟨-, q1, q2, -, -, -, -, -, -⟩ := blk9 m1.out.k0
  have hlt := lt_of_row m1.out.k0
  obtain ⟨aout, haout⟩ : ∃ r : Bool, r = (decide (a < 0) || decide (a > 5)) := ⟨_, rfl⟩
  have HAO := hid haout
  clear haout
  go_upto_region 3 with fail
  go_cut [26] (fun s26 wc => s26 = .bool aout ∧ wc = w1)
  case first =>
    by_cases g1 : a < 0
    · have g1' : decide (a < 0) = true := decide_eq_true g1
      go_wp2_with fail
      go_meet
      exact ⟨by rw [HAO.out, g1']; rfl, rfl⟩
    · have g1' : decide (a < 0) = false := decide_eq_false g1
      by_cases g2 : a > 5
      · have g2' : decide (a > 5) = true := decide_eq_true g2
        go_wp2_with fail
        go_meet
        exact ⟨by rw [HAO.out, g1', g2']; rfl, rfl⟩
      · have g2' : decide (a > 5) = false := decide_eq_false g2
        go_wp2_with fail
        go_meet
        exact ⟨by rw [HAO.out, g1', g2']; rfl, rfl⟩
  case rest =>
  obtain ⟨rfl, hw⟩ := hcut
  subst wc
  go_upto_if 26 with fail
  go_cut [4] (fun s4 wc => ∃ m : Nat, m ≤ 5 ∧ s4 = .int .i64 (m : Int) ∧ wc = w1)
  case first =>
    cases aout with
    | true =>
      go_wp2_with fail
      go_meet
      exact ⟨2, by omega, rfl, rfl⟩
    | false =>
      have h0 : ¬ a < 0 ∧ ¬ a > 5 := by
        have := HAO.out
        rw [eq_comm, Bool.or_eq_false_iff, decide_eq_false_iff_not, decide_eq_false_iff_not] at this
        exact this
      go_wp2_with fail
      go_meet
      exact ⟨a.toNat, by omega, by rw [Int.toNat_of_nonneg (by omega)], rfl⟩
  case rest =>
    obtain ⟨m, hm, rfl, hw⟩ := hcut
    subst wc
    have hmm : (m : Int) * (m : Int) = ((m * m : Nat) : Int) := by simp
    have hm2 : m * m ≤ 25 := Nat.mul_le_mul hm hm
    have hm0 : Hid (m = 0 → m * m = 0) := fun h => by rw [h]
    generalize m * m = mm at *
    go_upto_if 33 with fail
    go_cut [5] (fun s5 wc => ∃ k0 : Nat, k0 ≤ N ∧ k0 ≤ mm ∧ s5 = .int .i64 (k0 : Int) ∧ wc = w1)
    case first =>
      by_cases g1 : N < mm
      · have g1' : decide ((mm : Int) > (N : Int)) = true := decide_eq_true (by omega)
        have g1'' : decide ((N : Int) < (mm : Int)) = true := decide_eq_true (by omega)
        go_wp2_with fail
        go_meet
        exact ⟨N, by omega, by omega, rfl, rfl⟩
      · have g1' : decide ((mm : Int) > (N : Int)) = false := decide_eq_false (by omega)
        have g1'' : decide ((N : Int) < (mm : Int)) = false := decide_eq_false (by omega)
        go_wp2_with fail
        go_meet
        exact ⟨mm, by omega, by omega, rfl, rfl⟩
    case rest =>
      obtain ⟨k0, hk1, hk2, rfl, hw⟩ := hcut
      subst wc
      go_upto_if 40 with fail
      go_cut [5, 6] (fun s5 s6 wc => ∃ K D : Nat, K ≤ N ∧ K ≤ 25 ∧ D ≤ 5 ∧ (D = 0 → K = 0) ∧ s5 = .int .i64 (K : Int) ∧ s6 = .int .i64 (D : Int) ∧ wc = w1)
      case first =>
        cases hb7 : (bits BinOp.and IntKind.i64 b 7 == 7) with
        | false =>
          go_wp2_with fail
          go_meet
          exact ⟨k0, m, by omega, by omega, hm, fun h => by have := hm0.out h; omega, rfl, rfl, rfl⟩
        | true =>
          have l8 := i64_lo2 (b / 8)
          have l32 := i64_lo2 (b / 32)
          have l128 := i64_lo1 (b / 128)
          have ha : ∃ d : Nat, d ≤ 3 ∧ b / 8 % 4 = (d : Int) := ⟨(b / 8 % 4).toNat, by omega, by omega⟩
          have he : ∃ d : Nat, d ≤ 3 ∧ b / 32 % 4 = (d : Int) := ⟨(b / 32 % 4).toNat, by omega, by omega⟩
          have hc : ∃ d : Nat, d ≤ 1 ∧ b / 128 % 2 = (d : Int) := ⟨(b / 128 % 2).toNat, by omega, by omega⟩
          obtain ⟨d1, hd1, ed⟩ := ha
          obtain ⟨e1, he1, ee⟩ := he
          obtain ⟨c1, hc1, ec⟩ := hc
          rw [ed] at l8
          rw [ee] at l32
          rw [ec] at l128
          clear ed ee ec
          have hmul : (1 + (d1 : Int)) * (1 + (e1 : Int)) = (((1 + d1) * (1 + e1) : Nat) : Int) := by simp
          have hm16 : (1 + d1) * (1 + e1) ≤ 4 * 4 := Nat.mul_le_mul (by omega) (by omega)
          have hm1 : 1 ≤ (1 + d1) * (1 + e1) := Nat.mul_pos (by omega) (by omega)
          generalize (1 + d1) * (1 + e1) = pr at *
          have hcn : (pr : Int) - (c1 : Int) = ((pr - c1 : Nat) : Int) := by omega
          have hpn : pr - c1 ≤ 16 := by omega
          generalize pr - c1 = pk at *
          by_cases g1 : N < pk
          · have g1' : decide ((pk : Int) > (N : Int)) = true := decide_eq_true (by omega)
            have g1'' : decide ((N : Int) < (pk : Int)) = true := decide_eq_true (by omega)
            go_wp2_with fail
            go_meet
            exact ⟨N, 1 + d1, by omega, by omega, by omega, fun h => by omega, rfl, by simp, rfl⟩
          · have g1' : decide ((pk : Int) > (N : Int)) = false := decide_eq_false (by omega)
            have g1'' : decide ((N : Int) < (pk : Int)) = false := decide_eq_false (by omega)
            go_wp2_with fail
            go_meet
            exact ⟨pk, 1 + d1, by omega, by omega, by omega, fun h => by omega, rfl, by simp, rfl⟩
      case rest =>
        obtain ⟨K, D, hK1, hK2, hD, hD0, rfl, rfl, hw⟩ := hcut
        subst wc
        obtain ⟨k, len, xs, hi⟩ := solIs_ex K D (N - K) F (fun i => F (K + i))
        have hlen : len ≤ 4 := by
          rcases hi with ⟨-, -, rfl⟩ | ⟨hs, ⟨-, -, rfl⟩ | ⟨-, ⟨-, -, rfl⟩ | ⟨-, -, rfl⟩⟩⟩
          · omega
          · omega
          · omega
          · exact hs.2.1
        have BB := hid (BX.out.dropO hK1 hlc)
        have BA := hid (BX.out.take hK1)
        have WA : Hid (Wds K F) := fun i hi => WD.out i (by omega)
        have WB : Hid (Wds (N - K) (fun i => F (K + i))) := fun i hi => WD.out (K + i) (by omega)
        have SI := hid hi
        clear hi BX WD
        go_upto_region 16 with fail
        generalize (if lc = K then lo else Option.map (fun x => x.add (K * 2)) lo) = bo2 at *
        have HGA : Hid (∀ W, Below w1.heap.size w1 W → Calls Tryz.prog 84 #[.slice lo K lc] W fun e w' => ∃ bo bc, e = .returned (.slice bo K bc) ∧ BxV w' bo K F ∧ Below W.heap.size W w') := fun W hW => given_any lo K lc F W (BA.out.below hW) (by omega)
        have HGB : Hid (∀ W, Below w1.heap.size w1 W → Calls Tryz.prog 84 #[.slice bo2 (N - K) (lc - K)] W fun e w' => ∃ bo bc, e = .returned (.slice bo (N - K) bc) ∧ BxV w' bo (N - K) (fun i => F (K + i)) ∧ Below W.heap.size W w') := fun W hW => given_any bo2 (N - K) (lc - K) _ W (BB.out.below hW) (by omega)
        have HPS : Hid (∀ W p1 p2 p3 p4, Below w1.heap.size w1 W → BxV W p1 K F → BxV W p3 (N - K) (fun i => F (K + i)) → Calls Tryz.prog 24 #[.slice p1 K p2, .int .i64 (D : Int), .slice p3 (N - K) p4] W fun e w' => ∃ oo oc, e = .returned (.tuple #[.slice oo len oc, .int .i64 (k : Int)]) ∧ BxV w' oo len xs ∧ len ≤ oc ∧ (len = 0 → oo = none ∧ oc = 0) ∧ Below W.heap.size W w') := fun W p1 p2 p3 p4 hW h1 h2 => plainSolve_any A p1 p3 K p2 D (N - K) p4 F _ k len xs W (HS.out.below (m1.out.hb.trans (hW.mono m1.out.hb.size)) (Nat.le_refl _)) h1 h2 SI.out hD hD0 (by omega) (by omega) WA.out WB.out
        have HTK : Hid (∀ W p1 p2, BxV W p1 len xs → Calls Tryz.prog 85 #[.slice p1 len p2] W fun e w' => ∃ bo bc, e = .returned (.slice bo len bc) ∧ BxV w' bo len xs ∧ len ≤ bc ∧ (len = 0 → bo = none ∧ bc = 0) ∧ Below W.heap.size W w') := fun W p1 p2 h => taken_any p1 len p2 xs W h (by omega)
        have HLS : Hid (∀ W p1 p2 p3 p4, BxV W p1 len xs → BxV W p3 len xs → len ≤ p4 → Calls Tryz.prog 38 #[.slice p1 len p2, .slice p3 len p4, .int .i64 0] W fun e w' => e = .returned (.bool true) ∧ Below W.heap.size W w') := fun W p1 p2 p3 p4 h1 h2 h3 => listed_any p1 p3 len len p2 p4 xs xs 0 W h1 h2 h3 (by omega) (fun h => absurd h (by decide)) (fun _ => rfl) (fun _ _ => rfl)
        have HJG : Hid (∀ W p1 p2 pick, Below w1.heap.size w1 W → BxV W p1 len xs → (len = 0 → p1 = none ∧ p2 = 0) → Calls Tryz.prog 86 #[.slice lo K lc, .int .i64 (D : Int), .slice bo2 (N - K) (lc - K), .slice p1 len p2, .int .i64 (k : Int), .int .i64 pick] W fun e w' => e = .returned (.bool true) ∧ Below W.heap.size W w') := fun W p1 p2 pick hW h1 h2 => judge_any lo bo2 p1 K lc D (N - K) (lc - K) len p2 k F _ xs pick W SI.out (by omega) (by omega) hD (BA.out.below hW) (BB.out.below hW) h1 WA.out WB.out h2
        have B0 : Hid (Below w1.heap.size w1 w1) := Below.refl _ _
        clear BA BB WA WB SI q1 q2 hlt hmm hm2 hm hk1 hk2 hD0
        go_wp2_with fail
        refine Calls.mono (HGA.out _ B0.out) ?_
        rintro e w2 ⟨p1, p2, rfl, hx1, hb2⟩
        have X1 := hid hx1
        have B2 := hid hb2
        clear hx1 hb2 B0
        go_wp2_with fail
        refine Calls.mono (HGB.out _ B2.out) ?_
        rintro e w3 ⟨p3, p4, rfl, hx3, hb3⟩
        have X1 := hid (X1.out.below hb3)
        have X3 := hid hx3
        have B3 := hid (B2.out.trans (hb3.mono B2.out.size))
        clear hx3 hb3 B2
        go_wp2_with fail
        refine Calls.mono (HPS.out _ _ _ _ _ B3.out X1.out X3.out) ?_
        rintro e w4 ⟨o1, o2, rfl, hx4, ho1, ho2, hb4⟩
        have X4 := hid hx4
        have B4 := hid (B3.out.trans (hb4.mono B3.out.size))
        clear hx4 ho1 ho2 hb4 B3 X1 X3
        go_wp2_with fail
        refine Calls.mono (HGA.out _ B4.out) ?_
        rintro e w5 ⟨r1, r2, rfl, hx5, hb5⟩
        have X4 := hid (X4.out.below hb5)
        have X5 := hid hx5
        have B5 := hid (B4.out.trans (hb5.mono B4.out.size))
        clear hx5 hb5 B4 HGA
        go_wp2_with fail
        refine Calls.mono (HGB.out _ B5.out) ?_
        rintro e w6 ⟨r3, r4, rfl, hx6, hb6⟩
        have X4 := hid (X4.out.below hb6)
        have X5 := hid (X5.out.below hb6)
        have X6 := hid hx6
        have B6 := hid (B5.out.trans (hb6.mono B5.out.size))
        clear hx6 hb6 B5 HGB
        go_wp2_with fail
        refine Calls.mono (HPS.out _ _ _ _ _ B6.out X5.out X6.out) ?_
        rintro e w7 ⟨y1, y2, rfl, hx7, hy1, hy2, hb7⟩
        have X4 := hid (X4.out.below hb7)
        have X7 := hid hx7
        have B7 := hid (B6.out.trans (hb7.mono B6.out.size))
        clear hx7 hy1 hy2 hb7 B6 X5 X6 HPS
        go_wp2_with fail
        refine Calls.mono (HTK.out _ _ _ X4.out) ?_
        rintro e w8 ⟨t1, t2, rfl, hx8, ht1, ht2, hb8⟩
        have X7 := hid (X7.out.below hb8)
        have X8 := hid hx8
        have T1 := hid ht1
        have T2 := hid ht2
        have B8 := hid (B7.out.trans (hb8.mono B7.out.size))
        clear hx8 ht1 ht2 hb8 B7 X4 HTK
        go_wp2_with fail
        refine Calls.mono (HLS.out _ _ _ _ _ X7.out X8.out T1.out) ?_
        rintro e w9 ⟨rfl, hb9⟩
        have X8 := hid (X8.out.below hb9)
        have B9 := hid (B8.out.trans (hb9.mono B8.out.size))
        have m9 := hid (m1.out.below B9.out)
        clear hb9 B8 X7 HLS T1
        obtain ⟨-, q1, q2, -, -, -, -, -, -⟩ := blk9 m9.out.k0
        have hlt := lt_of_row m9.out.k0
        go_wp2_with fail
        refine Calls.mono (HJG.out _ _ _ _ B9.out X8.out T2.out) ?_
        rintro e w10 ⟨rfl, hb10⟩
        have HBF := hid (m9.out.hb.trans (hb10.mono m9.out.hb.size))
        clear hb10 HJG B9 X8 T2 m1 q1 q2 hlt
        have hkk : ((k : Int) == (k : Int)) = true := by simp
        go_wp2
        go_ret
        exact ⟨rfl, HBF.out⟩
end Go.Proofs.YtonhpkigoplmaaaGreatDoor
namespace Go.Proofs.YtonhpkigoplmaaaGreatDoor
open Go.RowKit

set_option maxHeartbeats 1000000 in
set_option maxRecDepth 20000 in
theorem upto_any2 (A : Nat → Addr) (z : Script) (ao : Option Addr) (n c : Nat) (lo hi : Int) (w : World) (hn : n ≤ 1466015503701) (hS : Sents A w)
    (hz : n = 0 ∨ ∃ g off, ao = some ⟨g, off, none⟩ ∧ g < w.heap.size ∧ z.at w g off n)
    (hp : ∀ i, i < n → lo ≤ z.k i → z.k i ≤ hi → ∀ W, Below w.heap.size w W → Sents A W → Calls Tryz.prog 18 #[z.val i] W fun e W' => e = .returned (.bool true) ∧ Below W.heap.size W W') :
    Calls Tryz.prog 14 #[.slice ao n c, .int .i64 lo, .int .i64 hi] w fun e w' => e = .returned (.int .i64 (-1)) ∧ Below w.heap.size w w' := by
  have HP : Hid (∀ i, i < n → lo ≤ z.k i → z.k i ≤ hi → ∀ W, Below w.heap.size w W → Sents A W → Calls Tryz.prog 18 #[z.val i] W fun e W' => e = .returned (.bool true) ∧ Below W.heap.size W W') := hp
  have HZ : Hid (n = 0 ∨ ∃ g off, ao = some ⟨g, off, none⟩ ∧ g < w.heap.size ∧ z.at w g off n) := hz
  have HS : Hid (Sents A w) := hS
  clear hp hz hS
  go_enter Tryz.func14, Tryz.ntmps14
  go_wp2
  have hM0 : (n : Int) ≤ 1152921504606846976 := by omega
  generalize (1152921504606846976 : Int) = M at *
  go_loopw [7] (fun v wr => ∃ i : Nat, i ≤ n ∧ v = .int .i64 (i : Int) ∧ Below w.heap.size w wr) (fun v _ => n - (intOf v).toNat)
  case atStart => exact ⟨0, Nat.zero_le _, rfl, Below.refl _ _⟩
  case round =>
    obtain ⟨i, hi1, rfl, hbr⟩ := hrel
    by_cases hin : i < n
    · have hiM : (i : Int) < M := by omega
      obtain ⟨g, off, rfl, hg, hat⟩ := HZ.out.resolve_left (by omega)
      obtain ⟨c0, c1, c2, c3, c4, c5, c6, c7, c8⟩ := hat i hin
      rw [← hbr.cell (by exact hg)] at c0 c1 c2 c3 c4 c5 c6 c7 c8
      have HSr : Hid (Sents A wr) := HS.out.below hbr (Nat.le_refl _)
      have HPi : Hid (lo ≤ z.k i → z.k i ≤ hi → ∀ W, Below w.heap.size w W → Sents A W → Calls Tryz.prog 18 #[z.val i] W fun e W' => e = .returned (.bool true) ∧ Below W.heap.size W W') := HP.out i hin
      have Hbr : Hid (Below w.heap.size w wr) := hbr
      unfold Script.val at HPi
      clear hat HZ HP HS hg hbr
      generalize z.k i = zk at *
      generalize z.a i = za at *
      generalize z.b i = zb at *
      generalize z.s i = zs at *
      generalize z.xl i = zxl at *
      generalize z.xh i = zxh at *
      generalize z.yl i = zyl at *
      generalize z.yh i = zyh at *
      generalize z.po i = zpo at *
      generalize z.pl i = zpl at *
      generalize z.pc i = zpc at *
      by_cases hk1 : lo ≤ zk
      · by_cases hk2 : zk ≤ hi
        · go_wp2_with fail
          have hA1 : Below wr.heap.size wr (wr.alloc (Obj.cells #[Value.int IntKind.i64 zk, Value.int IntKind.i64 za, Value.int IntKind.i64 zb, Value.string zs, Value.int IntKind.u64 ↑zxl, Value.int IntKind.u64 ↑zxh, Value.int IntKind.u64 ↑zyl, Value.int IntKind.u64 ↑zyh, Value.slice zpo zpl zpc] 31)) := (Below.refl _ _).alloc (Nat.le_refl _) _
          refine Calls.mono (HPi.out hk1 hk2 _ (Hbr.out.trans (hA1.mono Hbr.out.size)) (HSr.out.below hA1 (Nat.le_refl _))) ?_
          rintro e w1 ⟨rfl, hb1⟩
          have Hb1 : Hid (Below w.heap.size w w1) := (Hbr.out.alloc Hbr.out.size _).trans (hb1.mono (by have := Hbr.out.size; simp; omega))
          clear hA1 hb1 HPi HSr Hbr c0 c1 c2 c3 c4 c5 c6 c7 c8
          go_wp2
          go_roundw
          case rel => exact ⟨i + 1, by omega, by go_num, Hb1.out⟩
          case measure => simp [intOf]; omega
        · clear HPi HSr
          go_wp2
          go_roundw
          case rel => exact ⟨i + 1, by omega, by go_num, Hbr.out.alloc Hbr.out.size _⟩
          case measure => simp [intOf]; omega
      · clear HPi HSr
        go_wp2
        go_roundw
        case rel => exact ⟨i + 1, by omega, by go_num, Hbr.out.alloc Hbr.out.size _⟩
        case measure => simp [intOf]; omega
    · clear HZ HP HS
      go_wp2
      go_ret
      exact ⟨rfl, hbr⟩

end Go.Proofs.YtonhpkigoplmaaaGreatDoor
namespace Go.Proofs.YtonhpkigoplmaaaGreatDoor
open Go.RowKit

set_option maxHeartbeats 4000000 in
set_option maxRecDepth 100000 in
theorem plays_solve (A : Nat → Addr) (a b : Int) (s : ByteArray) (xl xh yl yh : Nat) (po : Option Addr) (n pc : Nat) (ps : Nat → Nat) (w : World) (hS : Sents A w) (hw : WdV w po n ps) (hn : n * 8 ≤ 140737488355328) :
    Calls Tryz.prog 18 #[.agg #[Value.int IntKind.i64 7, Value.int IntKind.i64 a, Value.int IntKind.i64 b, Value.string s, Value.int IntKind.u64 (xl : Int), Value.int IntKind.u64 (xh : Int), Value.int IntKind.u64 (yl : Int), Value.int IntKind.u64 (yh : Int), Value.slice po n pc]] w fun e w' => e = .returned (.bool true) ∧ Below w.heap.size w w' := by
  have HB : Below w.heap.size w (w.alloc (Obj.cells #[Value.int IntKind.i64 7, Value.int IntKind.i64 a, Value.int IntKind.i64 b, Value.string s, Value.int IntKind.u64 (xl : Int), Value.int IntKind.u64 (xh : Int), Value.int IntKind.u64 (yl : Int), Value.int IntKind.u64 (yh : Int), Value.slice po n pc] 31)) := (Below.refl _ _).alloc (Nat.le_refl _) _
  have HP := hid (solved_any A a b s xl xh yl yh po n pc ps (w.alloc (Obj.cells #[Value.int IntKind.i64 7, Value.int IntKind.i64 a, Value.int IntKind.i64 b, Value.string s, Value.int IntKind.u64 (xl : Int), Value.int IntKind.u64 (xh : Int), Value.int IntKind.u64 (yl : Int), Value.int IntKind.u64 (yh : Int), Value.slice po n pc] 31)) (hS.below HB (Nat.le_refl _)) (hw.below HB) hn)
  have HBH := hid HB
  clear hS hw hn HB
  go_enter Tryz.func18, Tryz.ntmps18
  go_wp2_with fail
  refine Calls.mono HP.out ?_
  rintro e w1 ⟨rfl, hb1⟩
  have HBF := hid (HBH.out.trans (hb1.mono HBH.out.size))
  clear hb1 HP HBH
  go_wp2
  go_ret
  exact ⟨rfl, HBF.out⟩

theorem solves_any (A : Nat → Addr) (z : Script) (P : Nat → Nat → Nat) (ao : Option Addr) (n c : Nat) (w : World) (hn : n ≤ 1466015503701) (hS : Sents A w)
    (hz : n = 0 ∨ ∃ g off, ao = some ⟨g, off, none⟩ ∧ g < w.heap.size ∧ z.at w g off n) (hP : ∀ i, i < n → WdV w (z.po i) (z.pl i) (P i) ∧ z.pl i * 8 ≤ 140737488355328) :
    Calls Tryz.prog 11 #[.slice ao n c] w fun e w' => e = .returned (.bool true) ∧ Below w.heap.size w w' := by
  have HU := upto_any2 A z ao n c 7 7 w hn hS hz (fun i hi h1 h2 W hb hW => by
    have hk : z.k i = 7 := by omega
    unfold Script.val
    rw [hk]
    obtain ⟨p1, p2⟩ := hP i hi
    exact plays_solve A (z.a i) (z.b i) _ _ _ _ _ _ _ _ (P i) W hW (p1.below hb) p2)
  clear hz hS hn hP
  have HU : Hid (Calls Tryz.prog 14 #[.slice ao n c, .int .i64 7, .int .i64 7] w fun e w' => e = .returned (.int .i64 (-1)) ∧ Below w.heap.size w w') := HU
  go_enter Tryz.func11, Tryz.ntmps11
  go_wp2_with fail
  refine Calls.mono HU.out ?_
  rintro e w1 ⟨rfl, hb1⟩
  clear HU
  go_wp2
  go_ret
  exact ⟨rfl, hb1⟩
end Go.Proofs.YtonhpkigoplmaaaGreatDoor
namespace Go.Proofs.YtonhpkigoplmaaaGreatDoor
open Go.RowKit

theorem sents_vars {P : Program} {nm : String} {W : World} {ti tp te ts : TypeId} {ms : Array (String × TypeId)} {f : Field}
    (hi : P.underlying ti = some (.interface ms)) (hrow : ∀ u, P.typeName? 3 u = some nm → u = tp)
    (hp : P.underlying tp = some (.pointer te)) (he : P.underlying te = some (.struct #[f])) (hft : f.type = ts) (hfo : f.offset = 0) (hs : P.underlying ts = some .string) (hc : P.cellsOf te = 1) (hcs : P.cellsOf ts = 1) :
    ∀ (l : List (String × List UInt8)) (gs : Nat → Nat) (ps : List MemPlace), DataW.LaidVars P W (l.map fun x => (x.1, .iface nm (.ptr (.agg [.lit (.string x.2)])))) ps →
      (∀ k (h : k < l.length), P.globalNamed l[k].1 = some (gs k) ∧ (P.globals[gs k]?).map (·.type) = some ti) →
      (∀ b off, MemPlace.cell b off ∈ ps → (∃ c t, W.heap[b]? = some (.cells c t (0, 0))) ∧ ∀ u v, W.cell? ⟨b, off, none⟩ = some (.iface u v) → Value.okWide P W .any 0 u v) →
      ∃ A : Nat → Addr, (∀ k, k < l.length → W.cell? ⟨gs k, 0, none⟩ = some (.iface tp (.pointer (some (A k)))) ∧ MemPlace.cell (A k).block (A k).off ∈ ps) ∧ (ps.Nodup → ∀ j k, j < k → k < l.length → A j ≠ A k)
  | [], gs, ps, h, hg, hr => ⟨fun _ => ⟨0, 0, none⟩, fun k hk => absurd hk (by simp), fun _ j k _ hk => absurd hk (by simp)⟩
  | x :: l, gs, ps, h, hg, hr => by
    obtain ⟨g, t, cs, fuel, p, q, hgn, ht, hv, hd, hq, rfl⟩ := h
    obtain ⟨hg1, ht1⟩ := hg 0 (by simp)
    obtain rfl := Option.some.inj (hg1.symm.trans hgn)
    obtain rfl := Option.some.inj (ht1.symm.trans ht)
    have ok0 : ∀ u v, cs.toList = [.iface u v] → Value.okWide P W .any 0 u v := fun u v e => by
      obtain ⟨l0⟩ := cs
      simp only at e
      subst e
      exact (hr (gs 0) 0 (by simp [MemPlace.row])).2 u v (by simpa using World.var?_cell hgn hv 0)
    obtain ⟨a, s, hcl, ha, _, _, rfl⟩ := errorString_of_trod hi hrow hp he hft hfo hs hc hcs hd ok0
    obtain ⟨A, h1, h2⟩ := sents_vars hi hrow hp he hft hfo hs hc hcs l (fun k => gs (k + 1)) q hq
      (fun k hk => by
        have := hg (k + 1) (by simpa using hk)
        simpa using this)
      (fun b off hm => hr b off (by simp [hm]))
    refine ⟨fun k => match k with | 0 => a | k + 1 => A k, fun k hk => ?_, fun hnd j k hjk hk => ?_⟩
    · match k, hk with
      | 0, _ =>
        have := World.var?_cell hgn hv 0
        rw [Array.eq_one_of_toList hcl] at this
        exact ⟨by simpa using this, by simp [MemPlace.row]⟩
      | k + 1, hk =>
        have := h1 k (by simpa using hk)
        refine ⟨this.1, ?_⟩
        · simp only [List.mem_append]; exact Or.inr this.2
    · have hq' : q.Nodup := (List.nodup_append.1 hnd).2.1
      match j, k, hjk, hk with
      | 0, k + 1, _, hk =>
        have h3 := (h1 k (by simpa using hk)).2
        show a ≠ A k
        rintro rfl
        exact (List.nodup_append.1 hnd).2.2 (MemPlace.cell (A k).block (A k).off) (by simp [MemPlace.row]) _ h3 rfl
      | j + 1, k + 1, hjk, hk => exact h2 hq' j k (by omega) (by simpa using hk)

def errs9 : List (String × List UInt8) := [("enclose/enclose.ErrFloat", [110, 111, 32, 112, 108, 97, 105, 110, 32, 102, 108, 111, 97, 116]),
  ("enclose/enclose.ErrOrder", [101, 110, 100, 115, 32, 105, 110, 32, 116, 104, 101, 32, 119, 114, 111, 110, 103, 32, 111, 114, 100, 101, 114]),
  ("enclose/enclose.ErrRange", [111, 117, 116, 32, 111, 102, 32, 114, 97, 110, 103, 101]),
  ("enclose/enclose.ErrZero", [100, 105, 118, 105, 115, 105, 111, 110, 32, 98, 121, 32, 119, 104, 97, 116, 32, 104, 111, 108, 100, 115, 32, 48]),
  ("enclose/enclose.ErrNegative", [114, 111, 111, 116, 32, 111, 102, 32, 119, 104, 97, 116, 32, 105, 115, 32, 98, 101, 108, 111, 119, 32, 48]),
  ("enclose/enclose.ErrEmpty", [110, 111, 116, 104, 105, 110, 103, 32, 105, 110, 32, 99, 111, 109, 109, 111, 110]),
  ("enclose/enclose.ErrName", [110, 111, 32, 115, 117, 99, 104, 32, 111, 112, 101, 114, 97, 116, 105, 111, 110]),
  ("enclose/enclose.ErrShape", [119, 114, 111, 110, 103, 32, 115, 104, 97, 112, 101]),
  ("enclose/enclose.ErrSure", [110, 111, 116, 32, 115, 117, 114, 101, 32, 111, 102, 32, 97, 110, 32, 97, 110, 115, 119, 101, 114])]
def sentsL : List (String × DataW Unit) := errs9.map fun x => (x.1, .iface "*errors.errorString" (.ptr (.agg [.lit (.string x.2)])))
def handleL : List (String × DataW Unit) := [("errors.errorType", .iface "internal/reflectlite.rtype" (.agg [.ptr (.lit (.string [101, 114, 114, 111, 114]))]))]

theorem k_globals : (List.range 9).all (fun k => match errs9[k]? with | some x => Tryz.prog.globalNamed x.1 == some (gix k) && (Tryz.prog.globals[gix k]?).map (·.type) == some 70 | none => false) = true := by kernel_rfl
theorem k_et : Tryz.prog.globalNamed "errors.errorType" = some 9 := by kernel_rfl
theorem k_rt : (Tryz.prog.cutTypes.find? (·.1 == "internal/reflectlite.rtype")).map (·.2) = some 216 := by kernel_rfl
theorem k_oneRow : ((List.range 263).filter fun t => Tryz.prog.rowNamed t [101, 114, 114, 111, 114]) = [70] := by kernel_rfl
theorem k_size : Tryz.prog.types.size = 263 := by kernel_rfl
theorem k_star : "*" ++ "errors.errorString" = "*errors.errorString" := by decide
theorem k_row (u : TypeId) (h : Tryz.prog.typeName? 3 u = some "*errors.errorString") : u = 229 :=
  typeName_ptr_named (nm := "errors.errorString") (by rw [k_star]; kernel_rfl) (by kernel_rfl) (by decide) u (by rw [k_star]; exact h)
theorem k_cellsES : Tryz.prog.cellsOf 251 = 1 := by kernel_rfl
theorem k_cellsS : Tryz.prog.cellsOf 9 = 1 := by kernel_rfl

theorem sents_of_laid {W : World} (hd : laidMet Tryz.prog sentsL W) (hh : handlesMet Tryz.prog handleL W) : ∃ A, Sents A W := by
  obtain ⟨ps, hv, hnd, hr⟩ := hd
  obtain ⟨A, h1, h2⟩ := sents_vars (P := Tryz.prog) Tryz.underlying70 k_row Tryz.underlying229 Tryz.underlying251 rfl rfl Tryz.underlying9 k_cellsES k_cellsS errs9 gix ps hv
    (fun k hk => by
      have := List.all_eq_true.1 k_globals k (List.mem_range.2 hk)
      rw [List.getElem?_eq_getElem hk] at this
      simpa using this) hr
  have hl : errs9.length = 9 := rfl
  rw [hl] at h1 h2
  refine ⟨A, ?_, fun k hk => by simpa using (h1 k hk).1, fun k hk => (hr _ _ (h1 k hk).2).1, h2 hnd⟩
  obtain ⟨name, u, ty, e1, e2, e3, e4, e5⟩ := hh _ (List.mem_singleton.2 rfl)
  have en : name = [101, 114, 114, 111, 114] := (Option.some.inj e1).symm
  subst en
  obtain rfl := Option.some.inj (k_rt.symm.trans e2)
  have hm : ty ∈ (List.range 263).filter fun t => Tryz.prog.rowNamed t [101, 114, 114, 111, 114] := List.mem_filter.2 ⟨List.mem_range.2 (by rw [← k_size]; exact e3), e4⟩
  rw [k_oneRow] at hm
  obtain rfl := List.mem_singleton.1 hm
  have hh : typeHandle Tryz.prog 70 = .pointer (some ⟨11, 70, none⟩) := by kernel_rfl
  rw [hh] at e5
  simpa using World.var?_cell k_et e5 0
end Go.Proofs.YtonhpkigoplmaaaGreatDoor
namespace Go.Proofs.YtonhpkigoplmaaaGreatDoor
open Go.ChangeShapes Go.WideShapes Go.ChangeAt Go.RowKit Go.Deep

theorem solves_k_own : ownKnob Tryz.prog.godebug = none := by kernel_rfl
theorem solves_k_laidOut : laidOutB Tryz.prog = true := by kernel_rfl
theorem solves_k_bytesOp : Tryz.prog.bytesOf 31 = 96 := by kernel_rfl
theorem solves_k_readable : Tryz.prog.readableRec 22 = true := by kernel_rfl

theorem solves_door_met (os : Os) (args : Array Value) : laidMetH Tryz.prog Rows.solvesRow.laid ((World.doorLaid Tryz.prog 187 os).forCall (fun _ _ => 0) ⟨#[], args, []⟩).memory :=
  laidMetH_of_parts3 (fuel := 8) (laidMet_of_run' 8 (by kernel_rfl) (by kernel_rfl)) (by kernel_rfl) (by kernel_rfl)

theorem solves_laid {W : World} (h : laidMetH Tryz.prog Rows.solvesRow.laid W) : ∃ A, Sents A W := by
  have h' : laidMet Tryz.prog sentsL W ∧ handlesMet Tryz.prog handleL W := h
  exact sents_of_laid h'.1 h'.2

set_option maxRecDepth 100000 in
theorem solves_lifted (os : Os) (started : os.Started) (H : Type) (enc : TypeId × Value → H) :
    ReturnsInHanded {} Tryz.checked os 11 .any (fun w args => (Rows.solvesSpec.pre enc Tryz.prog Tryz.f11 [] false w args ∧ laidMetH Tryz.prog Rows.solvesRow.laid w) ∧ sizedMet enc Tryz.prog Tryz.f11 (OpenSpec.ofChange Rows.solvesSpec) false w args)
      (Rows.solvesSpec.post enc Tryz.prog Tryz.f11 false true false false) := by
  refine returnsInHanded_of_change_and (C := Tryz.checked) (X := fun w _ => laidMetH Tryz.prog Rows.solvesRow.laid w) (fun _ _ _ hh h => h.of_heap hh) solves_k_own started (by kernel_rfl) Tryz.func11
    (ChangeSpec.witness_shaped (enc := enc) (C := Tryz.checked) (os := os) (X := fun w _ => laidMetH Tryz.prog Rows.solvesRow.laid w) false (World.doorLaid Tryz.prog 187 os) #[.slice none 0 0] 8 rfl (World.shaped_of_RefB (by kernel_rfl) (by kernel_rfl)) (by kernel_rfl) (by kernel_rfl) (by kernel_rfl) (solves_door_met os _)) ?_
  intro W base args ds gs before hval0 hW _ hsz0 hL _
  have hval : ∀ (j : Nat) t v, Tryz.f11.params[j]? = some t → args[j]? = some v → Value.okWide Tryz.prog W .any base t v := hval0
  have hW' := hW
  obtain ⟨p, q, hA0, hV, rfl, hfz, hnd⟩ := hW
  have hA : DataW.TrodAll enc Tryz.prog W 0 (fun _ => true) true Tryz.f11.params.toList args.toList ds p := hA0
  have hsz : (DataW.weightsEach Tryz.prog (Tryz.f11.params.toList ++ Rows.solvesSpec.plain.varTypes Tryz.prog) (ds ++ gs)).all (· ≤ reachBytes) = true := hsz0
  rw [Tryz.params11] at hA hval hsz
  obtain ⟨v0, d0, hargs, rfl, h0⟩ := trodAll_one hA
  obtain ⟨rfl, rfl⟩ := trodVars_none hV
  obtain ⟨A, hS⟩ := solves_laid hL
  obtain rfl : args = #[v0] := by
    obtain ⟨l⟩ := args
    simpa using hargs
  have hlt : ∀ x ∈ p, x.block < W.heap.size := fun x hx => by simpa using hW'.lt x (by simpa using hx)
  have h0k := h0
  obtain ⟨fuel, hf⟩ := h0
  obtain ⟨z, ao, n, c, rfl, hz, hx, hd⟩ := script_of hf (okWide_slice Tryz.underlying22 (hval 0 22 v0 rfl rfl))
  have hn : n ≤ 1466015503701 := by
    rcases hd with ⟨_, h⟩ | ⟨es, sp, rfl, hlen⟩
    · omega
    · have := sized_slice hsz (j := 0) (t := 22) (e := 31) rfl rfl Tryz.underlying22
      rw [solves_k_bytesOp] at this
      simp only [reachBytes] at this
      omega
  have hPx : ∀ i, i < n → ∃ q : Nat → Nat, WdV W (z.po i) (z.pl i) q ∧ z.pl i * 8 ≤ 140737488355328 := by
    intro i hi
    obtain ⟨g, off, rfl, hg, hat⟩ := hz.resolve_left (by omega)
    obtain ⟨-, -, -, -, -, -, -, -, c8⟩ := hat i hi
    obtain ⟨⟨q, hq⟩, hk⟩ := script_words hf hi c8
    refine ⟨q, hq, ?_⟩
    rcases hk with h0 | ⟨k, hk, hle⟩
    · omega
    · have := List.all_eq_true.1 hsz k (DataW.weights_mem_each (j := 0) (t := 22) (d := d0) rfl rfl k hk)
      have h2 : k ≤ reachBytes := by simpa using this
      simp only [reachBytes] at h2
      omega
  obtain ⟨P, hP⟩ := choose_lt hPx
  refine (solves_any A z P ao n c W hn hS hz hP).mono fun e W' ⟨he, hb⟩ => ?_
  subst he
  have e1 : Rows.solvesSpec.fn H ([d0] ++ []) = { results := [.lit (.bool true)], args := [d0] } := by simp [Rows.solvesSpec]
  refine ⟨_, rfl, _, _, _, [], p, [], hW', ?_, ?_, ?_, hb.frame _, fun h => by cases h⟩
  · rw [e1]; exact trodAll_mk1 (shut_bool Tryz.underlying4 true)
  · rw [e1]; exact trodAll_mk1 (Below.trod solves_k_laidOut solves_k_readable (of_decide_eq_true (by kernel_rfl)) h0k hb hlt)
  · rw [e1]; rfl

theorem solves_holds : Rows.SolvesSaid :=
  OpenClaim.holds_of_wide 11 Tryz.f11 rfl rfl rfl rfl rfl rfl rfl ⟨rfl, rfl, rfl, rfl, rfl⟩ rfl rfl rfl rfl rfl (by kernel_rfl) Tryz.func11 (by kernel_rfl)
    (of_decide_eq_true (by kernel_rfl)) (by unfold Func.isWrapper; rw [if_neg (of_decide_eq_false (by kernel_rfl))]; exact ⟨rfl, rfl⟩)
    (fun os started H enc _ => solves_lifted os started H enc)

theorem solves_card : Rows.SolvesCardSaid :=
  Claim7.holds_tied_plain_at .later [] _ _ _ _ solves_holds (fun _ h => by cases h) (by kernel_rfl) (fun _ h => by cases h) solves_row_tie rfl ⟨rfl, rfl⟩ (by kernel_rfl) rfl
    (fun f fn hf hfn => by
      obtain rfl : f = 11 := Option.some.inj ((show Tryz.prog.funcNamed "enclose/encloselaw.Solves" = some 11 by kernel_rfl).symm.trans hf) |>.symm
      obtain rfl : fn = Tryz.f11 := (Option.some.inj (Tryz.func11.symm.trans hfn)).symm
      exact ⟨by kernel_rfl, fun j t ht => by
        rw [Tryz.params11] at ht
        have h3 : t = 22 := by
          rcases j with _ | j
          · simpa using ht.symm
          · simp at ht
        subst h3
        exact (show Tryz.prog.wantsStandIn 22 = false by kernel_rfl)⟩)
    (by kernel_rfl)
#print axioms solves_card
end Go.Proofs.YtonhpkigoplmaaaGreatDoor
