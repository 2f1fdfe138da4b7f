/-
  BalX, LawC, LawL, Laid, BalancesProof.
-/
import Derived.Test.YtonhpkigoplmaaaGreatDoorX16
import Derived.Test.YtonhpkigoplmaaaGreatDoorX17
import Derived.Test.YtonhpkigoplmaaaGreatDoorX11
import Derived.Test.YtonhpkigoplmaaaGreatDoorX03
import Derived.LaidLaws
import Derived.LaidHandle
import Derived.Stop.LaidTwo
import Derived.Test.YtonhpkigoplmaaaGreatDoorRows
import Derived.Test.YtonhpkigoplmaaaGreatDoorCards
import Derived.Test.YtonhpkigoplmaaaGreatDoorTie
import Derived.ProofKit
import Derived.LaidMore
import Derived.OpenShut
import Derived.Stop.Joined
import Derived.SevenTiedAt
import Derived.SizedLaws
namespace Go.Proofs.YtonhpkigoplmaaaGreatDoor
open Go.RowKit Go.Extern Ieee

theorem i64_l2 (n : Int) : bits .and .i64 n 3 = n % 4 := by
  show IntKind.i64.wrap ((BitVec.ofInt 64 n &&& BitVec.ofInt 64 3).toNat : Int) = _
  rw [BitVec.toNat_and, BitVec.toNat_ofInt, BitVec.toNat_ofInt, IntKind.wrap_i64, show ((3 : Int) % ((2 ^ 64 : Nat) : Int)).toNat = 3 by decide]
  have : (n % ((2 ^ 64 : Nat) : Int)).toNat &&& 3 = (n % ((2 ^ 64 : Nat) : Int)).toNat % 4 := Nat.and_two_pow_sub_one_eq_mod _ 2
  rw [this]
  omega

set_option maxHeartbeats 16000000 in
set_option maxRecDepth 100000 in
theorem balances_any (A : Nat → Addr) (kd oa ob : Int) (s : ByteArray) (xl xh yl yh : Nat) (po : Option Addr) (pn pc : Nat) (w : World) (hS : Sents A w) :
    Calls Tryz.prog 17 #[.agg #[Value.int IntKind.i64 kd, Value.int IntKind.i64 oa, Value.int IntKind.i64 ob, Value.string s, Value.int IntKind.u64 (xl : Int), Value.int IntKind.u64 (xh : Int), Value.int IntKind.u64 (yl : Int), Value.int IntKind.u64 (yh : Int), Value.slice po pn pc]] w fun e w' => e = .returned (.bool true) ∧ Below w.heap.size w w' := by
  obtain ⟨i0, hI0, hy0, hy1, hy2⟩ := info_parts infoPB
  obtain ⟨i1, hI1, hz0, hz1, hz2⟩ := info_parts infoInt
  have HW : Hid (∀ (W : World) (v : Int), Below w.heap.size w W → v.natAbs ≤ 1152921504606846976 → Calls Tryz.prog 20 #[.int .i64 v] W fun e w' => e = .returned (.tuple #[.agg #[.int .u64 (fl v : Int), .int .u64 (fh v : Int)], .bool true]) ∧ Below W.heap.size W w') := fun W v hW hv => whole_law A v W hv (hS.below hW (Nat.le_refl _))
  have HS := hid hS
  have hl2 := i64_l2 oa
  have hna : ∃ d : Nat, d ≤ 3 ∧ oa % 4 = (d : Int) := ⟨(oa % 4).toNat, by omega, by omega⟩
  obtain ⟨d, hd, ed⟩ := hna
  rw [ed] at hl2
  clear hS ed
  go_enter Tryz.func17, Tryz.ntmps17
  go_upto_region 2 with fail
  have m1 : Hid (LSt w (w.alloc (Obj.cells #[Value.int IntKind.i64 kd, Value.int IntKind.i64 oa, Value.int IntKind.i64 ob, Value.string s, Value.int IntKind.u64 (xl : Int), Value.int IntKind.u64 (xh : Int), Value.int IntKind.u64 (yl : Int), Value.int IntKind.u64 (yh : Int), Value.slice po pn pc] 31)) #[Value.int IntKind.i64 kd, Value.int IntKind.i64 oa, Value.int IntKind.i64 ob, Value.string s, Value.int IntKind.u64 (xl : Int), Value.int IntKind.u64 (xh : Int), Value.int IntKind.u64 (yl : Int), Value.int IntKind.u64 (yh : Int), Value.slice po pn pc]) := ⟨blk_new w _, (Below.refl _ _).alloc (Nat.le_refl _) _, by simp⟩
  generalize (w.alloc (Obj.cells #[Value.int IntKind.i64 kd, Value.int IntKind.i64 oa, Value.int IntKind.i64 ob, Value.string s, Value.int IntKind.u64 (xl : Int), Value.int IntKind.u64 (xh : Int), Value.int IntKind.u64 (yl : Int), Value.int IntKind.u64 (yh : Int), Value.slice po pn pc] 31)) = W1 at *
  obtain ⟨n, hn⟩ : ∃ n, n = 1 + d := ⟨_, rfl⟩
  have e3 : (1 : Int) + (d : Int) = (n : Int) := by omega
  have hn0 : n ≠ 0 := by omega
  have hn4 : n ≤ 4 := by omega
  clear hn hl2
  rw [e3]
  clear e3
  go_wp2_with fail
  go_loopw [4, 5] (fun v x wr => ∃ (i : Nat) (X : Nat → Int), i ≤ n ∧ x = .int .i64 (i : Int) ∧ wr.ownsRow W1.heap.size 3 1 v i (ints X i) ∧ (∀ j, j < i → (X j).natAbs ≤ 256) ∧ Below W1.heap.size W1 wr) (fun _ x _ => n - (intOf x).toNat)
  case atStart => exact ⟨0, fun _ => 0, Nat.zero_le _, rfl, World.ownsRow_nil _ _ _ _, (fun j hj => by omega), Below.refl _ _⟩
  case round =>
    obtain ⟨i, X, hi1, rfl, hown, hX, hb⟩ := hrel
    have HO := hid hown
    have HX := hid hX
    have HB := hid hb
    clear hown hX hb
    by_cases hi : i < n
    · have m2 := hid (m1.out.below HB.out)
      obtain ⟨-, q1, q2, -, -, -, -, -, -⟩ := blk9 m2.out.k0
      have hlt := lt_of_row m2.out.k0
      have hsz := HB.out.size
      go_wp2_with fail
      refine Calls.mono (smallX_any _ _) ?_
      rintro e w1 ⟨k, rfl, hk, hb1⟩
      have HO := hid (ownsRow_mono HO.out hb1 (Nat.le_refl _))
      have HB := hid (HB.out.trans (hb1.mono HB.out.size))
      have HXN : Hid (∀ j, j < i + 1 → ((fun j => if j = i then k else X j) j).natAbs ≤ 256) := fun j hj => by
        by_cases hji : j = i
        · subst hji; simpa using hk
        · simp only; rw [if_neg hji]; exact HX.out j (by omega)
      have HPU := hid (ints_push X i k)
      have hsz := HB.out.size
      clear hb1 q1 q2 hlt m2 hk HX
      go_wp2_with (first
        | (at_builtin; refine wpList_append_own _ rfl _ _ 40 rfl W1.heap.size 3 i1 (.int .i64 0) 1 8 Tryz.underlying40 hI1 hz0 hz1 hz2 rfl (by decide) _ _ _ rfl (HO.out.alloc _) ⟨w1.heap.size, 0, none⟩ 1 1 [.int .i64 k] rfl rfl one_cell ?c2 ?c3 ?c4 ?c5 ?_)
        | go_in)
      case c2 => first | rfl | (intro u hu; simp at hu; rcases hu with rfl; rfl)
      case c3 => unfold maxLen; omega
      case c4 => omega
      case c5 => first | omega | (simp; omega)
      · intro v' w2 hown' hgrow _
        have PB := hid (own_push HO.out HB.out (Nat.le_refl _) hgrow)
        rw [← HPU.out] at hown'
        have HO2 := hid hown'
        clear hown' hgrow HO HB HPU
        go_wp2
        go_roundw
        case rel => exact ⟨i + 1, _, by omega, by go_num, HO2.out, HXN.out, PB.out⟩
        case measure => simp [intOf]; omega
    · obtain rfl : n = i := by omega
      have IV := IntV.of_owns HO.out
      obtain ⟨xo, xc, rfl, -⟩ := id IV
      have IX := hid IV
      have m2 := hid (m1.out.below HB.out)
      obtain ⟨w2, rfl⟩ : ∃ w2, w2 = wr := ⟨_, rfl⟩
      clear IV HO HB m1
      go_wp2_with fail
      go_loopw [7, 8, 9] (fun va vb x wr => ∃ (i : Nat) (K T : Nat → Int), i ≤ n ∧ x = .int .i64 (i : Int) ∧ BaM w2 wr va vb (n * i) i K T ∧ EntU n K (n * i) ∧ TRel n X K T i) (fun _ _ x _ => n - (intOf x).toNat)
      case atStart => exact ⟨0, fun _ => 0, fun _ => 0, Nat.zero_le _, rfl, ⟨World.ownsRow_nil _ _ _ _, World.ownsRow_nil _ _ _ _, (fun g hg => by simp [Value.ownBlock] at hg), Below.refl _ _⟩, (fun m hm => by omega), (fun r hr => by omega)⟩
      case round =>
        obtain ⟨i, K, T, hi1, rfl, hm, he, ht⟩ := hrel
        have BM := hid hm
        have EU := hid he
        have TR := hid ht
        clear hm he ht
        by_cases hi : i < n
        · have gi : decide ((i : Int) < (n : Int)) = true := decide_eq_true (by omega)
          go_wp2_with fail
          go_loopw [7, 10, 11] (fun va vt x wr => ∃ (j : Nat) (K : Nat → Int), j ≤ n ∧ x = .int .i64 (j : Int) ∧ vt = .int .i64 (sumI j (fun c => K (n * i + c) * X c)) ∧ BaM w2 wr va u8 (n * i + j) i K T ∧ EntU n K (n * i + j) ∧ TRel n X K T i) (fun _ _ x _ => n - (intOf x).toNat)
          case atStart => exact ⟨0, K, Nat.zero_le _, rfl, rfl, BM.out, EU.out, TR.out⟩
          case round =>
            obtain ⟨j, K', hj1, rfl, rfl, hm, he, ht⟩ := hrel
            have BM3 := hid hm
            have EU3 := hid he
            have TR3 := hid ht
            clear hm he ht
            by_cases hj : j < n
            · have m3 := hid (m2.out.below BM3.out.hb)
              obtain ⟨-, q1, q2, -, -, -, -, -, -⟩ := blk9 m3.out.k0
              have hlt := lt_of_row m3.out.k0
              go_wp2_with fail
              refine Calls.mono (smallK_any _ _) ?_
              rintro e w3 ⟨k0, rfl, hk0, hb3⟩
              have BM4 := hid (BM3.out.below hb3)
              have m4 := hid (m3.out.below hb3)
              clear hb3 BM3 m3 q1 q2 hlt
              obtain ⟨-, q1, q2, -, -, -, -, -, -⟩ := blk9 m4.out.k0
              have hlt := lt_of_row m4.out.k0
              have EN : Hid (∀ k : Int, (i ≠ j → k.natAbs ≤ 8) → (i = j → 100 ≤ k.natAbs ∧ k.natAbs ≤ 103) → EntB n (n * i + j) k) := fun k h1 h2 => by
                have e1 : (n * i + j) / n = i := by rw [Nat.mul_add_div (by omega), Nat.div_eq_of_lt hj]; omega
                have e2 : (n * i + j) % n = j := by rw [Nat.mul_add_mod, Nat.mod_eq_of_lt hj]
                unfold EntB
                rw [e1, e2]
                exact ⟨h1, h2⟩
              go_upto_if 60 with fail
              go_cut [12] (fun s12 wc => ∃ k : Int, s12 = .int .i64 k ∧ EntB n (n * i + j) k ∧ wc = w3)
              case first =>
                by_cases hij : i = j
                · have gij : ((i : Int) == (j : Int)) = true := by rw [beq_iff_eq]; omega
                  have E1 := hid (EN.out (100 + (i : Int)) (fun h => absurd hij h) (fun _ => by omega))
                  have E2 := hid (EN.out (-(100 + (i : Int))) (fun h => absurd hij h) (fun _ => by omega))
                  clear hij EN
                  go_wp2_with fail
                  all_goals go_meet
                  all_goals first | exact ⟨100 + (i : Int), rfl, E1.out, rfl⟩ | exact ⟨-(100 + (i : Int)), rfl, E2.out, rfl⟩ | exact ⟨_, rfl, E1.out, rfl⟩ | exact ⟨_, rfl, E2.out, rfl⟩
                · have gij : ((i : Int) == (j : Int)) = false := by rw [beq_eq_false_iff_ne]; omega
                  have E := hid (EN.out k0 (fun _ => hk0) (fun h => absurd h hij))
                  go_wp2_with fail
                  go_meet
                  exact ⟨k0, rfl, E.out, rfl⟩
              case rest =>
                obtain ⟨k, rfl, hk, hw⟩ := hcut
                subst wc
                have IX3 := IX.out.below BM4.out.hb
                obtain ⟨xo', xc', ex, hor⟩ := IX3
                cases ex
                obtain ⟨gx, rfl, hgx, hcx⟩ := hor.resolve_left (by omega)
                have cx := hcx j hj
                have hkb := entB_le hk
                have hxb := HX.out j hj
                have hpb : (k * X j).natAbs ≤ 26368 := by
                  rw [Int.natAbs_mul]
                  have := Nat.mul_le_mul hkb hxb
                  omega
                have htb := sum_small (n := n) (i := i) (j := j) (X := X) (K := K') hn4 (by omega) EU3.out (fun c hc => HX.out c hc)
                have SP := hid (sum_push (n := n) (i := i) (j := j) (X := X) (K := K') (k := k))
                have EU4 := hid (EU3.out.push hk)
                have TR4 := hid (TR3.out.updK (m := n * i + j) (k := k) (by omega))
                have hbw : Below w.heap.size w w3 := m4.out.hb
                have HWk := hid (HW.out w3 k hbw (by omega))
                have hb2 := BM4.out.hb.size
                have hni : n * i + j ≤ 16 := by
                  have : n * (i + 1) ≤ n * n := Nat.mul_le_mul_left n (by omega)
                  have h3 : n * (i + 1) = n * i + n := Nat.mul_succ n i
                  have h4 : n * n ≤ 4 * 4 := Nat.mul_le_mul hn4 hn4
                  omega
                generalize hp : k * X j = p at *
                generalize hxj : X j = xj at *
                generalize hts : sumI j (fun c => K' (n * i + c) * X c) = ts at *
                have HTS := hid hts
                clear hts hor hcx hbw hk EU3 TR3 EN hk0
                go_wp2_with fail
                refine Calls.mono HWk.out ?_
                rintro e w4 ⟨rfl, hb4⟩
                have BM5 := hid (BM4.out.below hb4)
                have ha : Below w4.heap.size w4 (w4.alloc (Obj.cells #[.int .u64 (fl k : Int), .int .u64 (fh k : Int)] 33)) := (Below.refl _ _).alloc (Nat.le_refl _) _
                have K5 := blk_new w4 (Obj.cells #[.int .u64 (fl k : Int), .int .u64 (fh k : Int)] 33)
                have BM6 := hid (BM5.out.below ha)
                clear hb4 ha BM5 BM4 HWk cx hgx q1 q2 hlt m4
                go_upto_region 25 with fail
                generalize (w4.alloc (Obj.cells #[.int .u64 (fl k : Int), .int .u64 (fh k : Int)] 33)) = W5 at *
                obtain ⟨x0, x1, -, -⟩ := blk2 K5
                have hlt5 := lt_of_row K5
                have hsz6 := BM6.out.hb.size
                go_wp2_with (first
                  | (at_builtin; refine wpList_append_at rfl _ _ 41 rfl w2.heap.size 33 i0 (.agg #[.int .u64 0, .int .u64 0]) 2 16 Tryz.underlying41 hI0 hy0 hy1 hy2 rfl (by decide) _ _ _ rfl (BM6.out.a.alloc _) ⟨W5.heap.size, 0, none⟩ 1 1 [.int .u64 (fl k : Int), .int .u64 (fh k : Int)] (by decide) rfl rfl two_cells ?c2 ?c3 ?c4 ?c5 ?_)
                  | go_in)
                case c2 => intro u hu; simp at hu; rcases hu with rfl | rfl <;> rfl
                case c3 => unfold maxLen; omega
                case c4 => omega
                case c5 => first | omega | (simp; omega)
                · intro v' w6 hown' hgrow hblk
                  have PA := hid (BM6.out.pushA hown' hgrow (by rw [World.size_alloc]; exact hblk))
                  clear hown' hgrow hblk BM6 K5 x0 x1 hlt5 hsz6
                  go_wp2
                  go_roundw
                  case rel => first | exact ⟨j + 1, _, by omega, by go_num, by rw [SP.out], PA.out, EU4.out, TR4.out⟩ | ((repeat apply Exists.intro); exact ⟨⟨j + 1, _, by omega, by go_num, by rw [SP.out], PA.out, EU4.out, TR4.out⟩, rfl⟩)
                  case measure => simp [intOf]; omega
            · obtain rfl : n = j := by omega
              have htb := sum_small (n := n) (i := i) (j := n) (X := X) (K := K') hn4 (by omega) EU3.out (fun c hc => HX.out c hc)
              have TR4 := hid (TR3.out.push rfl)
              have m3 := hid (m2.out.below BM3.out.hb)
              have hi4 : i ≤ 4 := by omega
              generalize hts : sumI n (fun c => K' (n * i + c) * X c) = ts at *
              have HWt := hid (HW.out wr ts m3.out.hb (by omega))
              clear hts TR3 m3
              obtain ⟨w3, rfl⟩ : ∃ w3, w3 = wr := ⟨_, rfl⟩
              go_wp2_with fail
              refine Calls.mono HWt.out ?_
              rintro e w4 ⟨rfl, hb4⟩
              have BM4 := BM3
              have BM5 := hid (BM4.out.below hb4)
              have ha : Below w4.heap.size w4 (w4.alloc (Obj.cells #[.int .u64 (fl ts : Int), .int .u64 (fh ts : Int)] 33)) := (Below.refl _ _).alloc (Nat.le_refl _) _
              have K5 := blk_new w4 (Obj.cells #[.int .u64 (fl ts : Int), .int .u64 (fh ts : Int)] 33)
              have BM6 := hid (BM5.out.below ha)
              clear hb4 ha BM5 BM4 HWt BM3
              go_upto_region 29 with fail
              generalize (w4.alloc (Obj.cells #[.int .u64 (fl ts : Int), .int .u64 (fh ts : Int)] 33)) = W5 at *
              obtain ⟨x0, x1, -, -⟩ := blk2 K5
              have hlt5 := lt_of_row K5
              have hsz6 := BM6.out.hb.size
              go_wp2_with (first
                | (at_builtin; refine wpList_append_at rfl _ _ 41 rfl w2.heap.size 33 i0 (.agg #[.int .u64 0, .int .u64 0]) 2 16 Tryz.underlying41 hI0 hy0 hy1 hy2 rfl (by decide) _ _ _ rfl (BM6.out.b.alloc _) ⟨W5.heap.size, 0, none⟩ 1 1 [.int .u64 (fl ts : Int), .int .u64 (fh ts : Int)] (by decide) rfl rfl two_cells ?c2 ?c3 ?c4 ?c5 ?_)
                | go_in)
              case c2 => intro u hu; simp at hu; rcases hu with rfl | rfl <;> rfl
              case c3 => unfold maxLen; omega
              case c4 => omega
              case c5 => first | omega | (simp; omega)
              · intro v' w6 hown' hgrow hblk
                have PB := hid (BM6.out.pushB hown' hgrow (by rw [World.size_alloc]; exact hblk))
                clear hown' hgrow hblk BM6 K5 x0 x1 hlt5 hsz6
                go_wp2
                go_roundw
                case rel => first | exact ⟨i + 1, _, _, by omega, by go_num, PB.out, EU3.out, TR4.out⟩ | ((repeat apply Exists.intro); exact ⟨⟨i + 1, _, _, by omega, by go_num, PB.out, EU3.out, TR4.out⟩, rfl⟩)
                case measure => simp [intOf]; omega
        · obtain rfl : n = i := by omega
          obtain ⟨g, hsol, hg⟩ := bal_solve hn0 hn4 (K := K) (X := X) EU.out HX.out
          obtain ⟨ao, ac, rfl, -, hA⟩ := BxV.of_bxs BM.out.a
          obtain ⟨bo, bc, rfl, -, hB⟩ := BxV.of_bxs BM.out.b
          have hB := hB.congr (ys := bxI (fun i => sumI n (fun j => K (n * i + j) * X j))) (fun r hr => by unfold bxI; rw [TR.out r hr])
          have m3 := hid (m2.out.below BM.out.hb)
          have hnn : n * n ≤ 16 := Nat.mul_le_mul hn4 hn4
          have wK : ∀ m, m < n * n → (bxI K m).1 < 18446744073709551616 ∧ (bxI K m).2 < 18446744073709551616 := fun m hm => by
            have i := iv_whole (n := K m) (by have := entB_le (EU.out m hm); omega)
            exact ⟨i.lt1, i.lt2⟩
          have wT : ∀ m, m < n → (bxI (fun i => sumI n (fun j => K (n * i + j) * X j)) m).1 < 18446744073709551616 ∧ (bxI (fun i => sumI n (fun j => K (n * i + j) * X j)) m).2 < 18446744073709551616 := fun m hm => by
            have h1 := sum_small (n := n) (i := m) (j := n) (X := X) (K := K) hn4 (Nat.le_refl _) (fun m' hm' => EU.out m' (by
              have h2 : n * (m + 1) ≤ n * n := Nat.mul_le_mul_left n (by omega)
              have h3 : n * (m + 1) = n * m + n := Nat.mul_succ n m
              omega)) (fun c hc => HX.out c hc)
            have i := iv_whole (n := sumI n (fun j => K (n * m + j) * X j)) (by omega)
            exact ⟨i.lt1, i.lt2⟩
          have HSV := hid (plainSolve_any A ao bo (n * n) ac n n bc (bxI K) (bxI (fun i => sumI n (fun j => K (n * i + j) * X j))) 0 n g wr (HS.out.below m3.out.hb (Nat.le_refl _)) hA hB hsol (by omega) (fun h => absurd h hn0) (by omega) (by omega) wK wT)
          have HG := hid hg
          have IX3 := hid (IX.out.below BM.out.hb)
          clear hsol hg hA hB wK wT BM EU TR HW HS m2 IX
          generalize n * n = nn at *
          go_wp2_with fail
          refine Calls.mono HSV.out ?_
          rintro e w4 ⟨oo, oc, rfl, hx, hoc, -, hb4⟩
          have X4 := hid hx
          have I4 := hid (IX3.out.below hb4)
          have m4 := hid (m3.out.below hb4)
          have gnn : ((n : Int) != (n : Int)) = false := by simp
          clear hx hoc hb4 HSV IX3 m3
          go_wp2_with fail
          go_loopw [19] (fun x wy => ∃ i : Nat, i ≤ n ∧ x = .int .i64 (i : Int) ∧ Below w4.heap.size w4 wy) (fun x _ => n - (intOf x).toNat)
          case atStart => exact ⟨0, Nat.zero_le _, rfl, Below.refl _ _⟩
          case round =>
            obtain ⟨i, hi1, rfl, hb⟩ := hrel
            have HB := hid hb
            clear hb
            by_cases hi : i < n
            · obtain ⟨gl, off, rfl, hgl, hcl⟩ := X4.out.resolve_left (by omega)
              obtain ⟨c1, c2⟩ := hcl i hi
              obtain ⟨xo', xc', ex, hor⟩ := id I4.out
              cases ex
              obtain ⟨gx, rfl, hgx, hcx⟩ := hor.resolve_left (by omega)
              have c3 := hcx i hi
              have HCL : Hid (∀ W : World, Below wr.heap.size wr W → W.cell? ⟨gl, off + i * 2, none⟩ = some (.int .u64 ((g i).1 : Int)) ∧ W.cell? ⟨gl, off + i * 2 + 1, none⟩ = some (.int .u64 ((g i).2 : Int)) ∧ W.cell? ⟨gx, i, none⟩ = some (.int .i64 (X i))) := fun W hW => by
                have h := HB.out.trans (hW.mono HB.out.size)
                exact ⟨by rw [h.cell (by exact hgl)]; exact c1, by rw [h.cell (by exact hgl)]; exact c2, by rw [h.cell (by exact hgx)]; exact c3⟩
              obtain ⟨giv, gm⟩ := HG.out i hi
              have hxb := HX.out i hi
              have HHL : Hid (∀ W : World, Calls Tryz.prog 22 #[.agg #[.int .u64 ((g i).1 : Int), .int .u64 ((g i).2 : Int)], .int .i64 (X i)] W fun e w' => e = .returned (.bool true) ∧ Below W.heap.size W w') := fun W => holds_law (g i).1 (g i).2 (X i) W giv (by omega) (by omega) (bal_held giv gm).1 (bal_held giv gm).2
              have hgl2 : gl < wr.heap.size := Nat.lt_of_lt_of_le hgl HB.out.size
              have hgx2 : gx < wr.heap.size := Nat.lt_of_lt_of_le hgx HB.out.size
              generalize (g i).1 = y1 at *
              generalize (g i).2 = y2 at *
              generalize X i = y3 at *
              clear hcl hor hcx hgl hgx c1 c2 c3 giv gm hxb X4 I4
              obtain ⟨c1, c2, c3⟩ := HCL.out wr (Below.refl _ _)
              go_wp2_with fail
              go_cut [20] (fun s20 wc => s20 = .bool true ∧ Below wr.heap.size wr wc)
              case first =>
                have iN : Hid (Below wr.heap.size wr wr.drew) := (Below.refl _ _).drew
                go_region_held3 (fun W => W.cell? ⟨gl, off + i * 2, none⟩ = some (.int .u64 (y1 : Int)) ∧ W.cell? ⟨gl, off + i * 2 + 1, none⟩ = some (.int .u64 (y2 : Int)) ∧ W.cell? ⟨gx, i, none⟩ = some (.int .i64 y3)) (first | with_reducible exact HCL.out _ iN.out)
                  (first
                    | (go_at_call 22; with_reducible (refine Calls.mono (HHL.out _) ?_); rintro e v0 ⟨rfl, hbk⟩
                       have iN := hid (iN.out.trans (hbk.mono iN.out.size))
                       clear hbk))
                all_goals (go_wp2_with fail; go_meet; exact ⟨rfl, iN.out⟩)
              case rest =>
                obtain ⟨rfl, hbc⟩ := hcut
                have HB2 := hid (HB.out.trans (hbc.mono HB.out.size))
                clear hbc HB HCL HHL c1 c2 c3
                go_wp2
                go_roundw
                case rel => first | exact ⟨i + 1, by omega, by go_num, HB2.out⟩ | ((repeat apply Exists.intro); exact ⟨⟨i + 1, by omega, by go_num, HB2.out⟩, rfl⟩)
                case measure => simp [intOf]; omega
            · have HBF := hid (m4.out.hb.trans (HB.out.mono m4.out.hb.size))
              go_wp2
              go_ret
              exact ⟨rfl, HBF.out⟩
end Go.Proofs.YtonhpkigoplmaaaGreatDoor
namespace Go.Proofs.YtonhpkigoplmaaaGreatDoor
open Go.RowKit

end Go.Proofs.YtonhpkigoplmaaaGreatDoor
namespace Go.Proofs.YtonhpkigoplmaaaGreatDoor
open Go.RowKit

set_option maxHeartbeats 1000000 in
set_option maxRecDepth 20000 in
theorem balancesAll_any (A : Nat → Addr) (z : Script) (ao : Option Addr) (n c : Nat) (w : World) (hn : n ≤ 1466015503701) (hS : Sents A w)
    (hz : n = 0 ∨ ∃ g off, ao = some ⟨g, off, none⟩ ∧ g < w.heap.size ∧ z.at w g off n) :
    Calls Tryz.prog 12 #[.slice ao n c] w fun e w' => e = .returned (.bool true) ∧ Below w.heap.size w w' := by
  have HZ : Hid (n = 0 ∨ ∃ g off, ao = some ⟨g, off, none⟩ ∧ g < w.heap.size ∧ z.at w g off n) := hz
  have HS : Hid (Sents A w) := hS
  clear hz hS
  go_enter Tryz.func12, Tryz.ntmps12
  go_wp2
  have hM0 : (n : Int) ≤ 1152921504606846976 := by omega
  generalize (1152921504606846976 : Int) = M at *
  go_loopw [3] (fun v wr => ∃ i : Nat, i ≤ n ∧ v = .int .i64 (i : Int) ∧ Below w.heap.size w wr) (fun v _ => n - (intOf v).toNat)
  case atStart => exact ⟨0, Nat.zero_le _, rfl, Below.refl _ _⟩
  case round =>
    obtain ⟨i, hi1, rfl, hbr⟩ := hrel
    by_cases hin : i < n
    · have hiM : (i : Int) < M := by omega
      obtain ⟨g, off, rfl, hg, hat⟩ := HZ.out.resolve_left (by omega)
      obtain ⟨c0, c1, c2, c3, c4, c5, c6, c7, c8⟩ := hat i hin
      rw [← hbr.cell (by exact hg)] at c0 c1 c2 c3 c4 c5 c6 c7 c8
      have HPi : Hid (Calls Tryz.prog 17 #[.agg #[.int .i64 (z.k i), .int .i64 (z.a i), .int .i64 (z.b i), .string (z.s i), .int .u64 (z.xl i : Int), .int .u64 (z.xh i : Int), .int .u64 (z.yl i : Int), .int .u64 (z.yh i : Int), .slice (z.po i) (z.pl i) (z.pc i)]] wr fun e W' => e = .returned (.bool true) ∧ Below wr.heap.size wr W') := balances_any A _ _ _ _ _ _ _ _ _ _ _ wr (HS.out.below hbr (Nat.le_refl _))
      have Hbr : Hid (Below w.heap.size w wr) := hbr
      clear hat HZ HS hg hbr
      generalize z.k i = zk at *
      generalize z.a i = za at *
      generalize z.b i = zb at *
      generalize z.s i = zs at *
      generalize z.xl i = zxl at *
      generalize z.xh i = zxh at *
      generalize z.yl i = zyl at *
      generalize z.yh i = zyh at *
      generalize z.po i = zpo at *
      generalize z.pl i = zpl at *
      generalize z.pc i = zpc at *
      go_wp2_with fail
      refine Calls.mono HPi.out ?_
      rintro e w1 ⟨rfl, hb1⟩
      have Hb1 : Hid (Below w.heap.size w w1) := Hbr.out.trans (hb1.mono Hbr.out.size)
      clear hb1 HPi Hbr c0 c1 c2 c3 c4 c5 c6 c7 c8
      go_wp2
      go_roundw
      case rel => exact ⟨i + 1, by omega, by go_num, Hb1.out⟩
      case measure => simp [intOf]; omega
    · clear HZ HS
      go_wp2
      go_ret
      exact ⟨rfl, hbr⟩
end Go.Proofs.YtonhpkigoplmaaaGreatDoor
namespace Go.Proofs.YtonhpkigoplmaaaGreatDoor
open Go.RowKit

theorem sents_vars {P : Program} {nm : String} {W : World} {ti tp te ts : TypeId} {ms : Array (String × TypeId)} {f : Field}
    (hi : P.underlying ti = some (.interface ms)) (hrow : ∀ u, P.typeName? 3 u = some nm → u = tp)
    (hp : P.underlying tp = some (.pointer te)) (he : P.underlying te = some (.struct #[f])) (hft : f.type = ts) (hfo : f.offset = 0) (hs : P.underlying ts = some .string) (hc : P.cellsOf te = 1) (hcs : P.cellsOf ts = 1) :
    ∀ (l : List (String × List UInt8)) (gs : Nat → Nat) (ps : List MemPlace), DataW.LaidVars P W (l.map fun x => (x.1, .iface nm (.ptr (.agg [.lit (.string x.2)])))) ps →
      (∀ k (h : k < l.length), P.globalNamed l[k].1 = some (gs k) ∧ (P.globals[gs k]?).map (·.type) = some ti) →
      (∀ b off, MemPlace.cell b off ∈ ps → (∃ c t, W.heap[b]? = some (.cells c t (0, 0))) ∧ ∀ u v, W.cell? ⟨b, off, none⟩ = some (.iface u v) → Value.okWide P W .any 0 u v) →
      ∃ A : Nat → Addr, (∀ k, k < l.length → W.cell? ⟨gs k, 0, none⟩ = some (.iface tp (.pointer (some (A k)))) ∧ MemPlace.cell (A k).block (A k).off ∈ ps) ∧ (ps.Nodup → ∀ j k, j < k → k < l.length → A j ≠ A k)
  | [], gs, ps, h, hg, hr => ⟨fun _ => ⟨0, 0, none⟩, fun k hk => absurd hk (by simp), fun _ j k _ hk => absurd hk (by simp)⟩
  | x :: l, gs, ps, h, hg, hr => by
    obtain ⟨g, t, cs, fuel, p, q, hgn, ht, hv, hd, hq, rfl⟩ := h
    obtain ⟨hg1, ht1⟩ := hg 0 (by simp)
    obtain rfl := Option.some.inj (hg1.symm.trans hgn)
    obtain rfl := Option.some.inj (ht1.symm.trans ht)
    have ok0 : ∀ u v, cs.toList = [.iface u v] → Value.okWide P W .any 0 u v := fun u v e => by
      obtain ⟨l0⟩ := cs
      simp only at e
      subst e
      exact (hr (gs 0) 0 (by simp [MemPlace.row])).2 u v (by simpa using World.var?_cell hgn hv 0)
    obtain ⟨a, s, hcl, ha, _, _, rfl⟩ := errorString_of_trod hi hrow hp he hft hfo hs hc hcs hd ok0
    obtain ⟨A, h1, h2⟩ := sents_vars hi hrow hp he hft hfo hs hc hcs l (fun k => gs (k + 1)) q hq
      (fun k hk => by
        have := hg (k + 1) (by simpa using hk)
        simpa using this)
      (fun b off hm => hr b off (by simp [hm]))
    refine ⟨fun k => match k with | 0 => a | k + 1 => A k, fun k hk => ?_, fun hnd j k hjk hk => ?_⟩
    · match k, hk with
      | 0, _ =>
        have := World.var?_cell hgn hv 0
        rw [Array.eq_one_of_toList hcl] at this
        exact ⟨by simpa using this, by simp [MemPlace.row]⟩
      | k + 1, hk =>
        have := h1 k (by simpa using hk)
        refine ⟨this.1, ?_⟩
        · simp only [List.mem_append]; exact Or.inr this.2
    · have hq' : q.Nodup := (List.nodup_append.1 hnd).2.1
      match j, k, hjk, hk with
      | 0, k + 1, _, hk =>
        have h3 := (h1 k (by simpa using hk)).2
        show a ≠ A k
        rintro rfl
        exact (List.nodup_append.1 hnd).2.2 (MemPlace.cell (A k).block (A k).off) (by simp [MemPlace.row]) _ h3 rfl
      | j + 1, k + 1, hjk, hk => exact h2 hq' j k (by omega) (by simpa using hk)

def errs9 : List (String × List UInt8) := [("enclose/enclose.ErrFloat", [110, 111, 32, 112, 108, 97, 105, 110, 32, 102, 108, 111, 97, 116]),
  ("enclose/enclose.ErrOrder", [101, 110, 100, 115, 32, 105, 110, 32, 116, 104, 101, 32, 119, 114, 111, 110, 103, 32, 111, 114, 100, 101, 114]),
  ("enclose/enclose.ErrRange", [111, 117, 116, 32, 111, 102, 32, 114, 97, 110, 103, 101]),
  ("enclose/enclose.ErrZero", [100, 105, 118, 105, 115, 105, 111, 110, 32, 98, 121, 32, 119, 104, 97, 116, 32, 104, 111, 108, 100, 115, 32, 48]),
  ("enclose/enclose.ErrNegative", [114, 111, 111, 116, 32, 111, 102, 32, 119, 104, 97, 116, 32, 105, 115, 32, 98, 101, 108, 111, 119, 32, 48]),
  ("enclose/enclose.ErrEmpty", [110, 111, 116, 104, 105, 110, 103, 32, 105, 110, 32, 99, 111, 109, 109, 111, 110]),
  ("enclose/enclose.ErrName", [110, 111, 32, 115, 117, 99, 104, 32, 111, 112, 101, 114, 97, 116, 105, 111, 110]),
  ("enclose/enclose.ErrShape", [119, 114, 111, 110, 103, 32, 115, 104, 97, 112, 101]),
  ("enclose/enclose.ErrSure", [110, 111, 116, 32, 115, 117, 114, 101, 32, 111, 102, 32, 97, 110, 32, 97, 110, 115, 119, 101, 114])]
def sentsL : List (String × DataW Unit) := errs9.map fun x => (x.1, .iface "*errors.errorString" (.ptr (.agg [.lit (.string x.2)])))
def handleL : List (String × DataW Unit) := [("errors.errorType", .iface "internal/reflectlite.rtype" (.agg [.ptr (.lit (.string [101, 114, 114, 111, 114]))]))]

theorem k_globals : (List.range 9).all (fun k => match errs9[k]? with | some x => Tryz.prog.globalNamed x.1 == some (gix k) && (Tryz.prog.globals[gix k]?).map (·.type) == some 70 | none => false) = true := by kernel_rfl
theorem k_et : Tryz.prog.globalNamed "errors.errorType" = some 9 := by kernel_rfl
theorem k_rt : (Tryz.prog.cutTypes.find? (·.1 == "internal/reflectlite.rtype")).map (·.2) = some 216 := by kernel_rfl
theorem k_oneRow : ((List.range 263).filter fun t => Tryz.prog.rowNamed t [101, 114, 114, 111, 114]) = [70] := by kernel_rfl
theorem k_size : Tryz.prog.types.size = 263 := by kernel_rfl
theorem k_star : "*" ++ "errors.errorString" = "*errors.errorString" := by decide
theorem k_row (u : TypeId) (h : Tryz.prog.typeName? 3 u = some "*errors.errorString") : u = 229 :=
  typeName_ptr_named (nm := "errors.errorString") (by rw [k_star]; kernel_rfl) (by kernel_rfl) (by decide) u (by rw [k_star]; exact h)
theorem k_cellsES : Tryz.prog.cellsOf 251 = 1 := by kernel_rfl
theorem k_cellsS : Tryz.prog.cellsOf 9 = 1 := by kernel_rfl

theorem sents_of_laid {W : World} (hd : laidMet Tryz.prog sentsL W) (hh : handlesMet Tryz.prog handleL W) : ∃ A, Sents A W := by
  obtain ⟨ps, hv, hnd, hr⟩ := hd
  obtain ⟨A, h1, h2⟩ := sents_vars (P := Tryz.prog) Tryz.underlying70 k_row Tryz.underlying229 Tryz.underlying251 rfl rfl Tryz.underlying9 k_cellsES k_cellsS errs9 gix ps hv
    (fun k hk => by
      have := List.all_eq_true.1 k_globals k (List.mem_range.2 hk)
      rw [List.getElem?_eq_getElem hk] at this
      simpa using this) hr
  have hl : errs9.length = 9 := rfl
  rw [hl] at h1 h2
  refine ⟨A, ?_, fun k hk => by simpa using (h1 k hk).1, fun k hk => (hr _ _ (h1 k hk).2).1, h2 hnd⟩
  obtain ⟨name, u, ty, e1, e2, e3, e4, e5⟩ := hh _ (List.mem_singleton.2 rfl)
  have en : name = [101, 114, 114, 111, 114] := (Option.some.inj e1).symm
  subst en
  obtain rfl := Option.some.inj (k_rt.symm.trans e2)
  have hm : ty ∈ (List.range 263).filter fun t => Tryz.prog.rowNamed t [101, 114, 114, 111, 114] := List.mem_filter.2 ⟨List.mem_range.2 (by rw [← k_size]; exact e3), e4⟩
  rw [k_oneRow] at hm
  obtain rfl := List.mem_singleton.1 hm
  have hh : typeHandle Tryz.prog 70 = .pointer (some ⟨11, 70, none⟩) := by kernel_rfl
  rw [hh] at e5
  simpa using World.var?_cell k_et e5 0
end Go.Proofs.YtonhpkigoplmaaaGreatDoor
namespace Go.Proofs.YtonhpkigoplmaaaGreatDoor
open Go.ChangeShapes Go.WideShapes Go.ChangeAt Go.RowKit

theorem balances_k_own : ownKnob Tryz.prog.godebug = none := by kernel_rfl
theorem balances_k_laidOut : laidOutB Tryz.prog = true := by kernel_rfl
theorem balances_k_bytesOp : Tryz.prog.bytesOf 31 = 96 := by kernel_rfl
theorem balances_k_readable : Tryz.prog.readableRec 22 = true := by kernel_rfl

theorem balances_door_met (os : Os) (args : Array Value) : laidMetH Tryz.prog Rows.balancesRow.laid ((World.doorLaid Tryz.prog 187 os).forCall (fun _ _ => 0) ⟨#[], args, []⟩).memory :=
  laidMetH_of_parts3 (fuel := 8) (laidMet_of_run' 8 (by kernel_rfl) (by kernel_rfl)) (by kernel_rfl) (by kernel_rfl)

theorem balances_laid {W : World} (h : laidMetH Tryz.prog Rows.balancesRow.laid W) : ∃ A, Sents A W := by
  have h' : laidMet Tryz.prog sentsL W ∧ handlesMet Tryz.prog handleL W := h
  exact sents_of_laid h'.1 h'.2

set_option maxRecDepth 100000 in
theorem balances_lifted (os : Os) (started : os.Started) (H : Type) (enc : TypeId × Value → H) :
    ReturnsInHanded {} Tryz.checked os 12 .any (fun w args => (Rows.balancesSpec.pre enc Tryz.prog Tryz.f12 [] false w args ∧ laidMetH Tryz.prog Rows.balancesRow.laid w) ∧ sizedMet enc Tryz.prog Tryz.f12 (OpenSpec.ofChange Rows.balancesSpec) false w args)
      (Rows.balancesSpec.post enc Tryz.prog Tryz.f12 false true false false) := by
  refine returnsInHanded_of_change_and (C := Tryz.checked) (X := fun w _ => laidMetH Tryz.prog Rows.balancesRow.laid w) (fun _ _ _ hh h => h.of_heap hh) balances_k_own started (by kernel_rfl) Tryz.func12
    (ChangeSpec.witness_shaped (enc := enc) (C := Tryz.checked) (os := os) (X := fun w _ => laidMetH Tryz.prog Rows.balancesRow.laid w) false (World.doorLaid Tryz.prog 187 os) #[.slice none 0 0] 8 rfl (World.shaped_of_RefB (by kernel_rfl) (by kernel_rfl)) (by kernel_rfl) (by kernel_rfl) (by kernel_rfl) (balances_door_met os _)) ?_
  intro W base args ds gs before hval0 hW _ hsz0 hL _
  have hval : ∀ (j : Nat) t v, Tryz.f12.params[j]? = some t → args[j]? = some v → Value.okWide Tryz.prog W .any base t v := hval0
  have hW' := hW
  obtain ⟨p, q, hA0, hV, rfl, hfz, hnd⟩ := hW
  have hA : DataW.TrodAll enc Tryz.prog W 0 (fun _ => true) true Tryz.f12.params.toList args.toList ds p := hA0
  have hsz : (DataW.weightsEach Tryz.prog (Tryz.f12.params.toList ++ Rows.balancesSpec.plain.varTypes Tryz.prog) (ds ++ gs)).all (· ≤ reachBytes) = true := hsz0
  rw [Tryz.params12] at hA hval hsz
  obtain ⟨v0, d0, hargs, rfl, h0⟩ := trodAll_one hA
  obtain ⟨rfl, rfl⟩ := trodVars_none hV
  obtain ⟨A, hS⟩ := balances_laid hL
  obtain rfl : args = #[v0] := by
    obtain ⟨l⟩ := args
    simpa using hargs
  have hlt : ∀ x ∈ p, x.block < W.heap.size := fun x hx => by simpa using hW'.lt x (by simpa using hx)
  have h0k := h0
  obtain ⟨fuel, hf⟩ := h0
  obtain ⟨z, ao, n, c, rfl, hz, -, hd⟩ := script_of hf (okWide_slice Tryz.underlying22 (hval 0 22 v0 rfl rfl))
  have hn : n ≤ 1466015503701 := by
    rcases hd with ⟨_, h⟩ | ⟨es, sp, rfl, hlen⟩
    · omega
    · have := sized_slice hsz (j := 0) (t := 22) (e := 31) rfl rfl Tryz.underlying22
      rw [balances_k_bytesOp] at this
      simp only [reachBytes] at this
      omega
  refine (balancesAll_any A z ao n c W hn hS hz).mono fun e W' ⟨he, hb⟩ => ?_
  subst he
  have e1 : Rows.balancesSpec.fn H ([d0] ++ []) = { results := [.lit (.bool true)], args := [d0] } := by simp [Rows.balancesSpec]
  refine ⟨_, rfl, _, _, _, [], p, [], hW', ?_, ?_, ?_, hb.frame _, fun h => by cases h⟩
  · rw [e1]; exact trodAll_mk1 (shut_bool Tryz.underlying4 true)
  · rw [e1]; exact trodAll_mk1 (Below.trod balances_k_laidOut balances_k_readable (of_decide_eq_true (by kernel_rfl)) h0k hb hlt)
  · rw [e1]; rfl

theorem balances_holds : Rows.BalancesSaid :=
  OpenClaim.holds_of_wide 12 Tryz.f12 rfl rfl rfl rfl rfl rfl rfl ⟨rfl, rfl, rfl, rfl, rfl⟩ rfl rfl rfl rfl rfl (by kernel_rfl) Tryz.func12 (by kernel_rfl)
    (of_decide_eq_true (by kernel_rfl)) (by unfold Func.isWrapper; rw [if_neg (of_decide_eq_false (by kernel_rfl))]; exact ⟨rfl, rfl⟩)
    (fun os started H enc _ => balances_lifted os started H enc)

theorem balances_card : Rows.BalancesCardSaid :=
  Claim7.holds_tied_plain_at .later [] _ _ _ _ balances_holds (fun _ h => by cases h) (by kernel_rfl) (fun _ h => by cases h) balances_row_tie rfl ⟨rfl, rfl⟩ (by kernel_rfl) rfl
    (fun f fn hf hfn => by
      obtain rfl : f = 12 := Option.some.inj ((show Tryz.prog.funcNamed "enclose/encloselaw.Balances" = some 12 by kernel_rfl).symm.trans hf) |>.symm
      obtain rfl : fn = Tryz.f12 := (Option.some.inj (Tryz.func12.symm.trans hfn)).symm
      exact ⟨by kernel_rfl, fun j t ht => by
        rw [Tryz.params12] at ht
        have h3 : t = 22 := by
          rcases j with _ | j
          · simpa using ht.symm
          · simp at ht
        subst h3
        exact (show Tryz.prog.wantsStandIn 22 = false by kernel_rfl)⟩)
    (by kernel_rfl)
#print axioms balances_card
end Go.Proofs.YtonhpkigoplmaaaGreatDoor
