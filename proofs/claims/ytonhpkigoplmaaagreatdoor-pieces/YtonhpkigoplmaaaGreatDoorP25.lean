/-
  ListX, LawP, LawC, LawX, Laid, PiecesProof.
-/
import Derived.Test.YtonhpkigoplmaaaGreatDoorP21
import Derived.Test.YtonhpkigoplmaaaGreatDoorP19
import Derived.Deep.RegionHeld3
import Derived.Deep.DeepCutAuto
import Derived.Test.YtonhpkigoplmaaaGreatDoorP24
import Derived.Test.YtonhpkigoplmaaaGreatDoorP22
import Derived.Test.YtonhpkigoplmaaaGreatDoorP03
import Derived.LaidLaws
import Derived.LaidHandle
import Derived.Stop.LaidTwo
import Derived.Test.YtonhpkigoplmaaaGreatDoorRows
import Derived.Test.YtonhpkigoplmaaaGreatDoorCards
import Derived.Test.YtonhpkigoplmaaaGreatDoorTie
import Derived.ProofKit
import Derived.LaidMore
import Derived.OpenShut
import Derived.Stop.Joined
import Derived.SevenTiedAt
import Derived.SizedLaws
namespace Go.Proofs.YtonhpkigoplmaaaGreatDoor
open Go.RowKit

/-- Boxes as they lie in memory. -/
def BxV (W : World) (ao : Option Addr) (n : Nat) (xs : Nat → Nat × Nat) : Prop :=
  n = 0 ∨ ∃ g off, ao = some ⟨g, off, none⟩ ∧ g < W.heap.size ∧ ∀ i, i < n → W.cell? ⟨g, off + i * 2, none⟩ = some (.int .u64 ((xs i).1 : Int)) ∧ W.cell? ⟨g, off + i * 2 + 1, none⟩ = some (.int .u64 ((xs i).2 : Int))

theorem BxV.below {W W' : World} {ao : Option Addr} {n : Nat} {xs : Nat → Nat × Nat} (h : BxV W ao n xs) (hb : Below W.heap.size W W') : BxV W' ao n xs := by
  rcases h with h0 | ⟨g, off, e, hg, hc⟩
  · exact .inl h0
  · exact .inr ⟨g, off, e, Nat.lt_of_lt_of_le hg hb.size, fun i hi => by rw [hb.cell (by exact hg), hb.cell (by exact hg)]; exact hc i hi⟩

theorem bvs_get : ∀ (l : List (Nat × Nat)) (i : Nat), i < l.length → (bvs l)[i * 2]? = some (.int .u64 ((l.getD i (0, 0)).1 : Int)) ∧ (bvs l)[i * 2 + 1]? = some (.int .u64 ((l.getD i (0, 0)).2 : Int))
  | [], i, h => by simp at h
  | p :: l, 0, _ => ⟨rfl, rfl⟩
  | p :: l, i + 1, h => by
    have := bvs_get l i (by simp at h; omega)
    rw [show (i + 1) * 2 = i * 2 + 1 + 1 by omega, show i * 2 + 1 + 1 + 1 = (i * 2 + 1) + 1 + 1 by omega]
    exact this

theorem BxV.of_owns {w : World} {v : Value} {B T : Nat} (l : List (Nat × Nat)) (h : w.ownsRow B T 2 v l.length (bvs l)) : ∃ ao c, v = .slice ao l.length c ∧ l.length ≤ c ∧ BxV w ao l.length (fun i => l.getD i (0, 0)) := by
  obtain ⟨_, h2⟩ := h
  rcases h2 with ⟨rfl, h0⟩ | ⟨g, cap, cur, rfl, hg, hh, hn, hcap, hs, ht⟩
  · rw [h0]; exact ⟨none, 0, rfl, Nat.le_refl _, .inl rfl⟩
  · refine ⟨_, _, rfl, hn, .inr ⟨g, 0, rfl, (Array.getElem?_eq_some_iff.1 hh).1, fun i hi => ?_⟩⟩
    have hb := bvs_get l i hi
    rw [← ht, List.getElem?_take, List.getElem?_take, if_pos (by omega), if_pos (by omega), Array.getElem?_toList, Array.getElem?_toList] at hb
    rw [cell_of_cur hh, cell_of_cur hh, Nat.zero_add]
    exact hb

set_option maxHeartbeats 4000000 in
set_option maxRecDepth 100000 in
theorem listed_any (lo mo : Option Addr) (k j lc mc : Nat) (xs ys : Nat → Nat × Nat) (m : Int) (w : World) (hx : BxV w lo k xs) (hy : BxV w mo j ys) (hj : j ≤ mc) (hjm : j ≤ 1000) (hk1 : 0 < m → m < (j : Int) → (k : Int) = m) (hk2 : ¬ (0 < m ∧ m < (j : Int)) → k = j) (hxy : ∀ i, i < k → xs i = ys i) :
    Calls Tryz.prog 38 #[.slice lo k lc, .slice mo j mc, .int .i64 m] w fun e w' => e = .returned (.bool true) ∧ Below w.heap.size w w' := by
  have HX := hid hx
  have HY := hid hy
  have HE := hid hxy
  have HK1 := hid hk1
  have HK2 := hid hk2
  have hmw : Hid (mc = mc) := rfl
  clear hx hy hxy hk1 hk2
  by_cases hm : 0 < m
  · by_cases hmj : m < (j : Int)
    · have hkm : (k : Int) = m := HK1.out hm hmj
      obtain ⟨g2, o2, rfl, hg2, hc2⟩ := HY.out.resolve_left (by omega)
      have HC2 := hid hc2
      have HG2 := hid hg2
      have hmc : m ≤ (mc : Int) := by omega
      have hmt : Hid (m.toNat = k) := by show m.toNat = k; omega
      clear HY hc2 hg2 HK1 HK2
      subst hkm
      go_enter Tryz.func38, Tryz.ntmps38
      go_wp2_with fail
      go_loopw [7, 8] (fun v _ wr => ∃ i : Nat, i ≤ k ∧ v = .int .i64 (i : Int) ∧ Below w.heap.size w wr) (fun v _ _ => k - (intOf v).toNat)
      case atStart => exact ⟨0, Nat.zero_le _, rfl, Below.refl _ _⟩
      case round =>
        obtain ⟨i, hi1, rfl, hb⟩ := hrel
        by_cases hin : i < k
        · obtain ⟨g1, o1, rfl, hg1, hc1⟩ := HX.out.resolve_left (by omega)
          have a1 := (hc1 i hin).1
          have a2 := (hc1 i hin).2
          have a3 := (HC2.out i (by omega)).1
          have a4 := (HC2.out i (by omega)).2
          rw [HE.out i hin] at a1 a2
          have hbk : Hid (Below w.heap.size w wr) := hb
          have CF : Hid (∀ W, Below wr.heap.size wr W → W.cell? ⟨g1, o1 + i * 2, none⟩ = some (.int .u64 ((ys i).1 : Int)) ∧ W.cell? ⟨g1, o1 + i * 2 + 1, none⟩ = some (.int .u64 ((ys i).2 : Int)) ∧ W.cell? ⟨g2, o2 + i * 2, none⟩ = some (.int .u64 ((ys i).1 : Int)) ∧ W.cell? ⟨g2, o2 + i * 2 + 1, none⟩ = some (.int .u64 ((ys i).2 : Int))) := by
            intro W hW
            have hB : Below w.heap.size w W := hb.trans (hW.mono hb.size)
            have hg2 := HG2.out
            exact ⟨(hB.cell (by exact hg1)).trans a1, (hB.cell (by exact hg1)).trans a2, (hB.cell (by exact hg2)).trans a3, (hB.cell (by exact hg2)).trans a4⟩
          clear a1 a2 a3 a4 hc1 hg1 HC2 HG2 HX HE hb
          generalize (ys i).1 = y1 at *
          generalize (ys i).2 = y2 at *
          have CD := hid (CF.out wr.drew ((Below.refl _ _).drew))
          obtain ⟨a1, a2, a3, a4⟩ := CF.out wr (Below.refl _ _)
          go_wp2_with fail
          go_region_held3 (fun W => W.cell? ⟨g1, o1 + i * 2, none⟩ = some (.int .u64 (y1 : Int)) ∧ W.cell? ⟨g1, o1 + i * 2 + 1, none⟩ = some (.int .u64 (y2 : Int)) ∧ W.cell? ⟨g2, o2 + i * 2, none⟩ = some (.int .u64 (y1 : Int)) ∧ W.cell? ⟨g2, o2 + i * 2 + 1, none⟩ = some (.int .u64 (y2 : Int))) (first | with_reducible exact CD.out | with_reducible exact CF.out _ hb6.out)
            (first
              | (go_at_call 28; refine (same_eq _ _ _).mono ?_; rintro e w4 ⟨rfl, hb4⟩
                 have hb5 : Hid (Below w.heap.size w w4) := (hbk.out.drew).trans (hb4.mono hbk.out.size)
                 have hb6 : Hid (Below wr.heap.size wr w4) := ((Below.refl _ wr).drew).trans hb4
                 clear hb4))
          all_goals (clear a1 a2 a3 a4 CF CD hbk; go_wp2; go_roundw)
          case rel => exact ⟨i + 1, by omega, by go_num, hb5.out⟩
          case measure => simp [intOf]; omega
        · clear HX HE
          go_wp2
          go_ret
          exact ⟨rfl, hb⟩
    · have hkj : k = j := HK2.out (fun h => hmj h.2)
      subst hkj
      clear HK1 HK2
      go_enter Tryz.func38, Tryz.ntmps38
      go_wp2_with fail
      go_loopw [7, 8] (fun v _ wr => ∃ i : Nat, i ≤ k ∧ v = .int .i64 (i : Int) ∧ Below w.heap.size w wr) (fun v _ _ => k - (intOf v).toNat)
      case atStart => exact ⟨0, Nat.zero_le _, rfl, Below.refl _ _⟩
      case round =>
        obtain ⟨i, hi1, rfl, hb⟩ := hrel
        by_cases hin : i < k
        · obtain ⟨g1, o1, rfl, hg1, hc1⟩ := HX.out.resolve_left (by omega)
          obtain ⟨g2, o2, rfl, hg2, hc2⟩ := HY.out.resolve_left (by omega)
          have HC2 := hid hc2
          have HG2 := hid hg2
          clear HY hc2 hg2
          have a1 := (hc1 i hin).1
          have a2 := (hc1 i hin).2
          have a3 := (HC2.out i (by omega)).1
          have a4 := (HC2.out i (by omega)).2
          rw [HE.out i hin] at a1 a2
          have hbk : Hid (Below w.heap.size w wr) := hb
          have CF : Hid (∀ W, Below wr.heap.size wr W → W.cell? ⟨g1, o1 + i * 2, none⟩ = some (.int .u64 ((ys i).1 : Int)) ∧ W.cell? ⟨g1, o1 + i * 2 + 1, none⟩ = some (.int .u64 ((ys i).2 : Int)) ∧ W.cell? ⟨g2, o2 + i * 2, none⟩ = some (.int .u64 ((ys i).1 : Int)) ∧ W.cell? ⟨g2, o2 + i * 2 + 1, none⟩ = some (.int .u64 ((ys i).2 : Int))) := by
            intro W hW
            have hB : Below w.heap.size w W := hb.trans (hW.mono hb.size)
            have hg2 := HG2.out
            exact ⟨(hB.cell (by exact hg1)).trans a1, (hB.cell (by exact hg1)).trans a2, (hB.cell (by exact hg2)).trans a3, (hB.cell (by exact hg2)).trans a4⟩
          clear a1 a2 a3 a4 hc1 hg1 HC2 HG2 HX HE hb
          generalize (ys i).1 = y1 at *
          generalize (ys i).2 = y2 at *
          have CD := hid (CF.out wr.drew ((Below.refl _ _).drew))
          obtain ⟨a1, a2, a3, a4⟩ := CF.out wr (Below.refl _ _)
          go_wp2_with fail
          go_region_held3 (fun W => W.cell? ⟨g1, o1 + i * 2, none⟩ = some (.int .u64 (y1 : Int)) ∧ W.cell? ⟨g1, o1 + i * 2 + 1, none⟩ = some (.int .u64 (y2 : Int)) ∧ W.cell? ⟨g2, o2 + i * 2, none⟩ = some (.int .u64 (y1 : Int)) ∧ W.cell? ⟨g2, o2 + i * 2 + 1, none⟩ = some (.int .u64 (y2 : Int))) (first | with_reducible exact CD.out | with_reducible exact CF.out _ hb6.out)
            (first
              | (go_at_call 28; refine (same_eq _ _ _).mono ?_; rintro e w4 ⟨rfl, hb4⟩
                 have hb5 : Hid (Below w.heap.size w w4) := (hbk.out.drew).trans (hb4.mono hbk.out.size)
                 have hb6 : Hid (Below wr.heap.size wr w4) := ((Below.refl _ wr).drew).trans hb4
                 clear hb4))
          all_goals (clear a1 a2 a3 a4 CF CD hbk; go_wp2; go_roundw)
          case rel => exact ⟨i + 1, by omega, by go_num, hb5.out⟩
          case measure => simp [intOf]; omega
        · clear HX HE
          go_wp2
          go_ret
          exact ⟨rfl, hb⟩
  · have hkj : k = j := HK2.out (fun h => hm h.1)
    subst hkj
    clear HK1 HK2
    go_enter Tryz.func38, Tryz.ntmps38
    go_wp2_with fail
    go_loopw [7, 8] (fun v _ wr => ∃ i : Nat, i ≤ k ∧ v = .int .i64 (i : Int) ∧ Below w.heap.size w wr) (fun v _ _ => k - (intOf v).toNat)
    case atStart => exact ⟨0, Nat.zero_le _, rfl, Below.refl _ _⟩
    case round =>
      obtain ⟨i, hi1, rfl, hb⟩ := hrel
      by_cases hin : i < k
      · obtain ⟨g1, o1, rfl, hg1, hc1⟩ := HX.out.resolve_left (by omega)
        obtain ⟨g2, o2, rfl, hg2, hc2⟩ := HY.out.resolve_left (by omega)
        have HC2 := hid hc2
        have HG2 := hid hg2
        clear HY hc2 hg2
        have a1 := (hc1 i hin).1
        have a2 := (hc1 i hin).2
        have a3 := (HC2.out i (by omega)).1
        have a4 := (HC2.out i (by omega)).2
        rw [HE.out i hin] at a1 a2
        have hbk : Hid (Below w.heap.size w wr) := hb
        have CF : Hid (∀ W, Below wr.heap.size wr W → W.cell? ⟨g1, o1 + i * 2, none⟩ = some (.int .u64 ((ys i).1 : Int)) ∧ W.cell? ⟨g1, o1 + i * 2 + 1, none⟩ = some (.int .u64 ((ys i).2 : Int)) ∧ W.cell? ⟨g2, o2 + i * 2, none⟩ = some (.int .u64 ((ys i).1 : Int)) ∧ W.cell? ⟨g2, o2 + i * 2 + 1, none⟩ = some (.int .u64 ((ys i).2 : Int))) := by
          intro W hW
          have hB : Below w.heap.size w W := hb.trans (hW.mono hb.size)
          have hg2 := HG2.out
          exact ⟨(hB.cell (by exact hg1)).trans a1, (hB.cell (by exact hg1)).trans a2, (hB.cell (by exact hg2)).trans a3, (hB.cell (by exact hg2)).trans a4⟩
        clear a1 a2 a3 a4 hc1 hg1 HC2 HG2 HX HE hb
        generalize (ys i).1 = y1 at *
        generalize (ys i).2 = y2 at *
        have CD := hid (CF.out wr.drew ((Below.refl _ _).drew))
        obtain ⟨a1, a2, a3, a4⟩ := CF.out wr (Below.refl _ _)
        go_wp2_with fail
        go_region_held3 (fun W => W.cell? ⟨g1, o1 + i * 2, none⟩ = some (.int .u64 (y1 : Int)) ∧ W.cell? ⟨g1, o1 + i * 2 + 1, none⟩ = some (.int .u64 (y2 : Int)) ∧ W.cell? ⟨g2, o2 + i * 2, none⟩ = some (.int .u64 (y1 : Int)) ∧ W.cell? ⟨g2, o2 + i * 2 + 1, none⟩ = some (.int .u64 (y2 : Int))) (first | with_reducible exact CD.out | with_reducible exact CF.out _ hb6.out)
          (first
            | (go_at_call 28; refine (same_eq _ _ _).mono ?_; rintro e w4 ⟨rfl, hb4⟩
               have hb5 : Hid (Below w.heap.size w w4) := (hbk.out.drew).trans (hb4.mono hbk.out.size)
               have hb6 : Hid (Below wr.heap.size wr w4) := ((Below.refl _ wr).drew).trans hb4
               clear hb4))
        all_goals (clear a1 a2 a3 a4 CF CD hbk; go_wp2; go_roundw)
        case rel => exact ⟨i + 1, by omega, by go_num, hb5.out⟩
        case measure => simp [intOf]; omega
      · clear HX HE
        go_wp2
        go_ret
        exact ⟨rfl, hb⟩
end Go.Proofs.YtonhpkigoplmaaaGreatDoor
namespace Go.Proofs.YtonhpkigoplmaaaGreatDoor
open Go.RowKit

/-- A step's box while calls go on. -/
structure LSt (w W : World) (c : Array Value) : Prop where
  k0 : W.heap[w.heap.size]? = some (.cells c 31 (0, 0))
  hb : Below w.heap.size w W
  sz : w.heap.size + 1 ≤ W.heap.size
theorem LSt.below {w W W' : World} {c : Array Value} (m : LSt w W c) (hb : Below W.heap.size W W') : LSt w W' c := ⟨blk_below m.k0 hb, m.hb.trans (hb.mono m.hb.size), Nat.le_trans m.sz hb.size⟩
theorem LSt.drew {w W : World} {c : Array Value} (m : LSt w W c) : LSt w W.drew c := ⟨m.k0, m.hb.drew, m.sz⟩
end Go.Proofs.YtonhpkigoplmaaaGreatDoor
namespace Go.Proofs.YtonhpkigoplmaaaGreatDoor
open Go.RowKit

set_option maxHeartbeats 1000000 in
set_option maxRecDepth 20000 in
theorem upto_any2 (A : Nat → Addr) (z : Script) (ao : Option Addr) (n c : Nat) (lo hi : Int) (w : World) (hn : n ≤ 1466015503701) (hS : Sents A w)
    (hz : n = 0 ∨ ∃ g off, ao = some ⟨g, off, none⟩ ∧ g < w.heap.size ∧ z.at w g off n)
    (hp : ∀ i, i < n → lo ≤ z.k i → z.k i ≤ hi → ∀ W, Below w.heap.size w W → Sents A W → Calls Tryz.prog 18 #[z.val i] W fun e W' => e = .returned (.bool true) ∧ Below W.heap.size W W') :
    Calls Tryz.prog 14 #[.slice ao n c, .int .i64 lo, .int .i64 hi] w fun e w' => e = .returned (.int .i64 (-1)) ∧ Below w.heap.size w w' := by
  have HP : Hid (∀ i, i < n → lo ≤ z.k i → z.k i ≤ hi → ∀ W, Below w.heap.size w W → Sents A W → Calls Tryz.prog 18 #[z.val i] W fun e W' => e = .returned (.bool true) ∧ Below W.heap.size W W') := hp
  have HZ : Hid (n = 0 ∨ ∃ g off, ao = some ⟨g, off, none⟩ ∧ g < w.heap.size ∧ z.at w g off n) := hz
  have HS : Hid (Sents A w) := hS
  clear hp hz hS
  go_enter Tryz.func14, Tryz.ntmps14
  go_wp2
  have hM0 : (n : Int) ≤ 1152921504606846976 := by omega
  generalize (1152921504606846976 : Int) = M at *
  go_loopw [7] (fun v wr => ∃ i : Nat, i ≤ n ∧ v = .int .i64 (i : Int) ∧ Below w.heap.size w wr) (fun v _ => n - (intOf v).toNat)
  case atStart => exact ⟨0, Nat.zero_le _, rfl, Below.refl _ _⟩
  case round =>
    obtain ⟨i, hi1, rfl, hbr⟩ := hrel
    by_cases hin : i < n
    · have hiM : (i : Int) < M := by omega
      obtain ⟨g, off, rfl, hg, hat⟩ := HZ.out.resolve_left (by omega)
      obtain ⟨c0, c1, c2, c3, c4, c5, c6, c7, c8⟩ := hat i hin
      rw [← hbr.cell (by exact hg)] at c0 c1 c2 c3 c4 c5 c6 c7 c8
      have HSr : Hid (Sents A wr) := HS.out.below hbr (Nat.le_refl _)
      have HPi : Hid (lo ≤ z.k i → z.k i ≤ hi → ∀ W, Below w.heap.size w W → Sents A W → Calls Tryz.prog 18 #[z.val i] W fun e W' => e = .returned (.bool true) ∧ Below W.heap.size W W') := HP.out i hin
      have Hbr : Hid (Below w.heap.size w wr) := hbr
      unfold Script.val at HPi
      clear hat HZ HP HS hg hbr
      generalize z.k i = zk at *
      generalize z.a i = za at *
      generalize z.b i = zb at *
      generalize z.s i = zs at *
      generalize z.xl i = zxl at *
      generalize z.xh i = zxh at *
      generalize z.yl i = zyl at *
      generalize z.yh i = zyh at *
      generalize z.po i = zpo at *
      generalize z.pl i = zpl at *
      generalize z.pc i = zpc at *
      by_cases hk1 : lo ≤ zk
      · by_cases hk2 : zk ≤ hi
        · go_wp2_with fail
          have hA1 : Below wr.heap.size wr (wr.alloc (Obj.cells #[Value.int IntKind.i64 zk, Value.int IntKind.i64 za, Value.int IntKind.i64 zb, Value.string zs, Value.int IntKind.u64 ↑zxl, Value.int IntKind.u64 ↑zxh, Value.int IntKind.u64 ↑zyl, Value.int IntKind.u64 ↑zyh, Value.slice zpo zpl zpc] 31)) := (Below.refl _ _).alloc (Nat.le_refl _) _
          refine Calls.mono (HPi.out hk1 hk2 _ (Hbr.out.trans (hA1.mono Hbr.out.size)) (HSr.out.below hA1 (Nat.le_refl _))) ?_
          rintro e w1 ⟨rfl, hb1⟩
          have Hb1 : Hid (Below w.heap.size w w1) := (Hbr.out.alloc Hbr.out.size _).trans (hb1.mono (by have := Hbr.out.size; simp; omega))
          clear hA1 hb1 HPi HSr Hbr c0 c1 c2 c3 c4 c5 c6 c7 c8
          go_wp2
          go_roundw
          case rel => exact ⟨i + 1, by omega, by go_num, Hb1.out⟩
          case measure => simp [intOf]; omega
        · clear HPi HSr
          go_wp2
          go_roundw
          case rel => exact ⟨i + 1, by omega, by go_num, Hbr.out.alloc Hbr.out.size _⟩
          case measure => simp [intOf]; omega
      · clear HPi HSr
        go_wp2
        go_roundw
        case rel => exact ⟨i + 1, by omega, by go_num, Hbr.out.alloc Hbr.out.size _⟩
        case measure => simp [intOf]; omega
    · clear HZ HP HS
      go_wp2
      go_ret
      exact ⟨rfl, hbr⟩

end Go.Proofs.YtonhpkigoplmaaaGreatDoor
namespace Go.Proofs.YtonhpkigoplmaaaGreatDoor
open Go.RowKit

theorem LSt.cells6 {w W : World} {c0 c1 c2 c3 c4 c5 c6 c7 c8 : Value} (m : LSt w W #[c0, c1, c2, c3, c4, c5, c6, c7, c8]) : W.cell? ⟨w.heap.size, 1, none⟩ = some c1 ∧ W.cell? ⟨w.heap.size, 2, none⟩ = some c2 ∧ W.cell? ⟨w.heap.size, 4, none⟩ = some c4 ∧ W.cell? ⟨w.heap.size, 5, none⟩ = some c5 ∧ W.cell? ⟨w.heap.size, 8, none⟩ = some c8 := by
  obtain ⟨-, k1, k2, -, k4, k5, -, -, k8⟩ := blk9 m.k0
  exact ⟨k1, k2, k4, k5, k8⟩

set_option maxHeartbeats 8000000 in
set_option maxRecDepth 100000 in
theorem plays_roots (A : Nat → Addr) (a b : Int) (s : ByteArray) (xl xh yl yh : Nat) (po : Option Addr) (n pc : Nat) (ps : Nat → Nat) (r3 k1 k2 j : Nat) (xs zs ys : Nat → Nat × Nat) (w : World) (hS : Sents A w) (hw : WdV w po n ps) (hn : n * 8 ≤ 140737488355328)
    (hp : ∀ W bo bc, Sents A W → WdV W bo n ps → Calls Tryz.prog 23 #[.slice bo n bc, .agg #[.int .u64 (xl : Int), .int .u64 (xh : Int)], .int .i64 a, .int .i64 b] W fun e w' => ∃ a1 c1 a2 c2, e = .returned (.tuple #[.slice a1 k1 c1, .slice a2 k2 c2, .int .i64 (r3 : Int)]) ∧ BxV w' a1 k1 xs ∧ BxV w' a2 k2 zs ∧ Below W.heap.size W w')
    (hq : ∀ W bo bc, WdV W bo n ps → Calls Tryz.prog 37 #[.slice bo n bc, .agg #[.int .u64 (xl : Int), .int .u64 (xh : Int)], .int .i64 a] W fun e w' => ∃ a3 c3, e = .returned (.tuple #[.slice a3 j c3, .int .i64 (r3 : Int)]) ∧ j ≤ c3 ∧ BxV w' a3 j ys ∧ Below W.heap.size W w')
    (hl1 : ∀ W a1 c1 a3 c3, BxV W a1 k1 xs → BxV W a3 j ys → j ≤ c3 → Calls Tryz.prog 38 #[.slice a1 k1 c1, .slice a3 j c3, .int .i64 0] W fun e w' => e = .returned (.bool true) ∧ Below W.heap.size W w')
    (hl2 : ∀ W a2 c2 a3 c3, BxV W a2 k2 zs → BxV W a3 j ys → j ≤ c3 → Calls Tryz.prog 38 #[.slice a2 k2 c2, .slice a3 j c3, .int .i64 b] W fun e w' => e = .returned (.bool true) ∧ Below W.heap.size W w') :
    Calls Tryz.prog 18 #[.agg #[Value.int IntKind.i64 6, Value.int IntKind.i64 a, Value.int IntKind.i64 b, Value.string s, Value.int IntKind.u64 (xl : Int), Value.int IntKind.u64 (xh : Int), Value.int IntKind.u64 (yl : Int), Value.int IntKind.u64 (yh : Int), Value.slice po n pc]] w fun e w' => e = .returned (.bool true) ∧ Below w.heap.size w w' := by
  have HP : Hid (∀ (W : World) (bo : Option Addr) (bc : Nat), Below w.heap.size w W → WdV W bo n ps → Calls Tryz.prog 23 #[.slice bo n bc, .agg #[.int .u64 (xl : Int), .int .u64 (xh : Int)], .int .i64 a, .int .i64 b] W fun e w' => ∃ a1 c1 a2 c2, e = .returned (.tuple #[.slice a1 k1 c1, .slice a2 k2 c2, .int .i64 (r3 : Int)]) ∧ BxV w' a1 k1 xs ∧ BxV w' a2 k2 zs ∧ Below W.heap.size W w') := fun W bo bc hb h => hp W bo bc (hS.below hb (Nat.le_refl _)) h
  have HQ : Hid (∀ W, Below w.heap.size w W → Calls Tryz.prog 37 #[.slice po n pc, .agg #[.int .u64 (xl : Int), .int .u64 (xh : Int)], .int .i64 a] W fun e w' => ∃ a3 c3, e = .returned (.tuple #[.slice a3 j c3, .int .i64 (r3 : Int)]) ∧ j ≤ c3 ∧ BxV w' a3 j ys ∧ Below W.heap.size W w') := fun W hb => hq W po pc (hw.below hb)
  have H1 : Hid (∀ W, Below w.heap.size w W → Calls Tryz.prog 35 #[.slice po n pc] W fun e w' => ∃ bo bc, e = .returned (.slice bo n bc) ∧ WdV w' bo n ps ∧ Below W.heap.size W w') := fun W hb => copied_any po n pc ps W (hw.below hb) hn
  have H2 : Hid (∀ W, Calls Tryz.prog 26 #[.agg #[.int .u64 (xl : Int), .int .u64 (xh : Int)]] W fun e w' => e = .returned (.agg #[.int .u64 (xl : Int), .int .u64 (xh : Int)]) ∧ Below W.heap.size W w') := fun W => lawBox_any _ _ W
  have HL1 := hid hl1
  have HL2 := hid hl2
  clear hp hq hS hw hn hl1 hl2
  go_enter Tryz.func18, Tryz.ntmps18
  go_wp2_with fail
  have m1 : Hid (LSt w (w.alloc (Obj.cells #[Value.int IntKind.i64 6, Value.int IntKind.i64 a, Value.int IntKind.i64 b, Value.string s, Value.int IntKind.u64 (xl : Int), Value.int IntKind.u64 (xh : Int), Value.int IntKind.u64 (yl : Int), Value.int IntKind.u64 (yh : Int), Value.slice po n pc] 31)) #[Value.int IntKind.i64 6, Value.int IntKind.i64 a, Value.int IntKind.i64 b, Value.string s, Value.int IntKind.u64 (xl : Int), Value.int IntKind.u64 (xh : Int), Value.int IntKind.u64 (yl : Int), Value.int IntKind.u64 (yh : Int), Value.slice po n pc]) := ⟨blk_new w _, (Below.refl _ _).alloc (Nat.le_refl _) _, by simp⟩
  generalize (w.alloc (Obj.cells #[Value.int IntKind.i64 6, Value.int IntKind.i64 a, Value.int IntKind.i64 b, Value.string s, Value.int IntKind.u64 (xl : Int), Value.int IntKind.u64 (xh : Int), Value.int IntKind.u64 (yl : Int), Value.int IntKind.u64 (yh : Int), Value.slice po n pc] 31)) = W2 at *
  go_cut [34, 35, 36] (fun s8 s9 s10 wc => ∃ a1 c1 a2 c2, s8 = .slice a1 k1 c1 ∧ s9 = .slice a2 k2 c2 ∧ s10 = .int .i64 (r3 : Int) ∧ LSt w wc #[Value.int IntKind.i64 6, Value.int IntKind.i64 a, Value.int IntKind.i64 b, Value.string s, Value.int IntKind.u64 (xl : Int), Value.int IntKind.u64 (xh : Int), Value.int IntKind.u64 (yl : Int), Value.int IntKind.u64 (yh : Int), Value.slice po n pc] ∧ BxV wc a1 k1 xs ∧ BxV wc a2 k2 zs)
  case first =>
    have iN := hid m1.out.drew
    go_region_held3 (fun W => W.cell? ⟨w.heap.size, 1, none⟩ = some (.int .i64 a) ∧ W.cell? ⟨w.heap.size, 2, none⟩ = some (.int .i64 b) ∧ W.cell? ⟨w.heap.size, 4, none⟩ = some (.int .u64 (xl : Int)) ∧ W.cell? ⟨w.heap.size, 5, none⟩ = some (.int .u64 (xh : Int)) ∧ W.cell? ⟨w.heap.size, 8, none⟩ = some (.slice po n pc)) (first | with_reducible exact iN.out.cells6)
      (first
        | (go_at_call 35; with_reducible (refine Calls.mono (H1.out _ ?_) ?_); (with_reducible exact iN.out.hb); rintro e v0 ⟨bo, bc, rfl, hw, hbk⟩
           have NW := hid hw
           clear hw
           have iN := hid (iN.out.below hbk)
           clear hbk)
        | (go_at_call 26; with_reducible (refine Calls.mono (H2.out _) ?_); rintro e v1 ⟨rfl, hbk⟩
           have NW := hid (NW.out.below hbk)
           have iN := hid (iN.out.below hbk)
           clear hbk)
        | (go_at_call 26; with_reducible (refine Calls.mono (H2.out _) ?_); rintro e v1 ⟨rfl, hbk⟩
           have iN := hid (iN.out.below hbk)
           clear hbk)
        | (go_at_call 23; with_reducible (refine Calls.mono (HP.out _ bo bc ?_ ?_) ?_); (with_reducible exact iN.out.hb); (exact NW.out); rintro e v2 ⟨a1, c1, a2, c2, rfl, hx1, hx2, hbk⟩
           have X1 := hid hx1
           have X2 := hid hx2
           clear hx1 hx2
           have iN := hid (iN.out.below hbk)
           clear hbk))
    all_goals (go_wp2_with fail; go_meet; exact ⟨_, _, _, _, rfl, rfl, rfl, iN.out, X1.out, X2.out⟩)
  case rest =>
    clear HP H1 H2 m1
    obtain ⟨a1, c1, a2, c2, rfl, rfl, rfl, hL, hB1, hB2⟩ := hcut
    have ML := hid hL
    have M1 := hid hB1
    have M2 := hid hB2
    obtain ⟨q1, q2, q4, q5, q8⟩ := hL.cells6
    clear hL hB1 hB2
    go_wp2_with fail
    refine Calls.mono (HQ.out _ ML.out.hb) ?_
    rintro e w3 ⟨a3, c3, rfl, hj, hb3, hb4⟩
    have ML := hid (ML.out.below hb4)
    have M1 := hid (M1.out.below hb4)
    have M2 := hid (M2.out.below hb4)
    have M3 := hid hb3
    have HJ := hid hj
    clear hb3 hb4 hj q1 q2 q4 q5 q8 HQ
    go_wp2_with fail
    refine Calls.mono (HL1.out _ _ _ _ _ M1.out M3.out HJ.out) ?_
    rintro e w4 ⟨rfl, hb4⟩
    have ML := hid (ML.out.below hb4)
    have M2 := hid (M2.out.below hb4)
    have M3 := hid (M3.out.below hb4)
    obtain ⟨q1, q2, q4, q5, q8⟩ := ML.out.cells6
    clear hb4 HL1 M1
    go_wp2_with fail
    refine Calls.mono (HL2.out _ _ _ _ _ M2.out M3.out HJ.out) ?_
    rintro e w5 ⟨rfl, hb5⟩
    have hbD : Below w.heap.size w w5 := ML.out.hb.trans (hb5.mono ML.out.hb.size)
    clear ML hb5 q1 q2 q4 q5 q8 HL2 M2 M3
    go_wp2
    go_ret
    exact ⟨rfl, hbD⟩

theorem takeN_len1 (L : List (Nat × Nat)) (b : Int) (h1 : 0 < b) (h2 : b < (L.length : Int)) : ((takeN L b).length : Int) = b := by
  unfold takeN; rw [if_pos ⟨h1, h2⟩, List.length_take]; omega
theorem takeN_len2 (L : List (Nat × Nat)) (b : Int) (h : ¬ (0 < b ∧ b < (L.length : Int))) : (takeN L b).length = L.length := by
  unfold takeN; rw [if_neg h]
theorem takeN_get (L : List (Nat × Nat)) (b : Int) (i : Nat) (h : i < (takeN L b).length) : (takeN L b).getD i (0, 0) = L.getD i (0, 0) := by
  unfold takeN at h ⊢
  split
  · rename_i hc
    rw [if_pos hc, List.length_take] at h
    rw [List.getD_eq_getElem?_getD, List.getD_eq_getElem?_getD, List.getElem?_take, if_pos (by omega)]
  · rfl

theorem plays_rootsL (A : Nat → Addr) (a b : Int) (s : ByteArray) (xl xh yl yh : Nat) (po : Option Addr) (n pc : Nat) (ps : Nat → Nat) (w : World) (hS : Sents A w) (hw : WdV w po n ps) (hn : n * 8 ≤ 140737488355328) (h1 : xl < 18446744073709551616) (h2 : xh < 18446744073709551616) :
    Calls Tryz.prog 18 #[.agg #[Value.int IntKind.i64 6, Value.int IntKind.i64 a, Value.int IntKind.i64 b, Value.string s, Value.int IntKind.u64 (xl : Int), Value.int IntKind.u64 (xh : Int), Value.int IntKind.u64 (yl : Int), Value.int IntKind.u64 (yh : Int), Value.slice po n pc]] w fun e w' => e = .returned (.bool true) ∧ Below w.heap.size w w' := by
  have hlen := rootsL_len ps n a (makeN xl xh).1 (makeN xl xh).2.1
  refine plays_roots A a b s xl xh yl yh po n pc ps (rootsE ps n a) (rootsL ps n a (makeN xl xh).1 (makeN xl xh).2.1).length (takeN (rootsL ps n a (makeN xl xh).1 (makeN xl xh).2.1) b).length (rootsL ps n a (makeN xl xh).1 (makeN xl xh).2.1).length (fun i => (rootsL ps n a (makeN xl xh).1 (makeN xl xh).2.1).getD i (0, 0)) (fun i => (takeN (rootsL ps n a (makeN xl xh).1 (makeN xl xh).2.1) b).getD i (0, 0)) (fun i => (rootsL ps n a (makeN xl xh).1 (makeN xl xh).2.1).getD i (0, 0)) w hS hw hn ?_ ?_ ?_ ?_
  · intro W bo bc hS h
    refine (plainRoots_ref A bo n bc ps xl xh a b W hS h hn h1 h2).mono ?_
    rintro e w' ⟨v1, v2, rfl, o1, o2, hb⟩
    obtain ⟨a1, c1, rfl, -, x1⟩ := BxV.of_owns _ o1
    obtain ⟨a2, c2, rfl, -, x2⟩ := BxV.of_owns _ o2
    exact ⟨a1, c1, a2, c2, rfl, x1, x2, hb⟩
  · intro W bo bc h
    refine (refRoots_any bo n bc ps a xl xh _ _ W h hn h1 h2 rfl rfl _ rfl).mono ?_
    rintro e w' ⟨v, rfl, o, -, hb⟩
    obtain ⟨a3, c3, rfl, hc, x⟩ := BxV.of_owns _ o
    exact ⟨a3, c3, rfl, hc, x, hb⟩
  · intro W a1 c1 a3 c3 x y hc
    exact listed_any a1 a3 _ _ c1 c3 _ _ 0 W x y hc (by omega) (fun h => absurd h (by decide)) (fun _ => rfl) (fun i _ => rfl)
  · intro W a2 c2 a3 c3 x y hc
    exact listed_any a2 a3 _ _ c2 c3 _ _ b W x y hc (by omega) (fun h1 h2 => takeN_len1 _ b h1 h2) (fun h => takeN_len2 _ b h) (fun i hi => takeN_get _ b i hi)

/-- A step of a script whose list is known, in every world that holds the script as it was. -/
theorem pieces_any (A : Nat → Addr) (z : Script) (P : Nat → Nat → Nat) (ao : Option Addr) (n c : Nat) (w : World) (hn : n ≤ 1466015503701) (hS : Sents A w)
    (hz : n = 0 ∨ ∃ g off, ao = some ⟨g, off, none⟩ ∧ g < w.heap.size ∧ z.at w g off n) (hx : ∀ i, i < n → z.xl i < 18446744073709551616 ∧ z.xh i < 18446744073709551616) (hP : ∀ i, i < n → WdV w (z.po i) (z.pl i) (P i) ∧ z.pl i * 8 ≤ 140737488355328) :
    Calls Tryz.prog 9 #[.slice ao n c] w fun e w' => e = .returned (.bool true) ∧ Below w.heap.size w w' := by
  have HU := upto_any2 A z ao n c 6 6 w hn hS hz (fun i hi h1 h2 W hb hW => by
    have hk : z.k i = 6 := by omega
    unfold Script.val
    rw [hk]
    obtain ⟨x1, x2⟩ := hx i hi
    obtain ⟨p1, p2⟩ := hP i hi
    exact plays_rootsL A (z.a i) (z.b i) _ (z.xl i) (z.xh i) _ _ _ _ _ (P i) W hW (p1.below hb) p2 x1 x2)
  clear hz hx hS hn hP
  have HU := hid HU
  go_enter Tryz.func9, Tryz.ntmps9
  go_wp2_with fail
  refine Calls.mono HU.out ?_
  rintro e w1 ⟨rfl, hb1⟩
  clear HU
  go_wp2
  go_ret
  exact ⟨rfl, hb1⟩
end Go.Proofs.YtonhpkigoplmaaaGreatDoor
namespace Go.Proofs.YtonhpkigoplmaaaGreatDoor
open Go.RowKit

theorem sents_vars {P : Program} {nm : String} {W : World} {ti tp te ts : TypeId} {ms : Array (String × TypeId)} {f : Field}
    (hi : P.underlying ti = some (.interface ms)) (hrow : ∀ u, P.typeName? 3 u = some nm → u = tp)
    (hp : P.underlying tp = some (.pointer te)) (he : P.underlying te = some (.struct #[f])) (hft : f.type = ts) (hfo : f.offset = 0) (hs : P.underlying ts = some .string) (hc : P.cellsOf te = 1) (hcs : P.cellsOf ts = 1) :
    ∀ (l : List (String × List UInt8)) (gs : Nat → Nat) (ps : List MemPlace), DataW.LaidVars P W (l.map fun x => (x.1, .iface nm (.ptr (.agg [.lit (.string x.2)])))) ps →
      (∀ k (h : k < l.length), P.globalNamed l[k].1 = some (gs k) ∧ (P.globals[gs k]?).map (·.type) = some ti) →
      (∀ b off, MemPlace.cell b off ∈ ps → (∃ c t, W.heap[b]? = some (.cells c t (0, 0))) ∧ ∀ u v, W.cell? ⟨b, off, none⟩ = some (.iface u v) → Value.okWide P W .any 0 u v) →
      ∃ A : Nat → Addr, (∀ k, k < l.length → W.cell? ⟨gs k, 0, none⟩ = some (.iface tp (.pointer (some (A k)))) ∧ MemPlace.cell (A k).block (A k).off ∈ ps) ∧ (ps.Nodup → ∀ j k, j < k → k < l.length → A j ≠ A k)
  | [], gs, ps, h, hg, hr => ⟨fun _ => ⟨0, 0, none⟩, fun k hk => absurd hk (by simp), fun _ j k _ hk => absurd hk (by simp)⟩
  | x :: l, gs, ps, h, hg, hr => by
    obtain ⟨g, t, cs, fuel, p, q, hgn, ht, hv, hd, hq, rfl⟩ := h
    obtain ⟨hg1, ht1⟩ := hg 0 (by simp)
    obtain rfl := Option.some.inj (hg1.symm.trans hgn)
    obtain rfl := Option.some.inj (ht1.symm.trans ht)
    have ok0 : ∀ u v, cs.toList = [.iface u v] → Value.okWide P W .any 0 u v := fun u v e => by
      obtain ⟨l0⟩ := cs
      simp only at e
      subst e
      exact (hr (gs 0) 0 (by simp [MemPlace.row])).2 u v (by simpa using World.var?_cell hgn hv 0)
    obtain ⟨a, s, hcl, ha, _, _, rfl⟩ := errorString_of_trod hi hrow hp he hft hfo hs hc hcs hd ok0
    obtain ⟨A, h1, h2⟩ := sents_vars hi hrow hp he hft hfo hs hc hcs l (fun k => gs (k + 1)) q hq
      (fun k hk => by
        have := hg (k + 1) (by simpa using hk)
        simpa using this)
      (fun b off hm => hr b off (by simp [hm]))
    refine ⟨fun k => match k with | 0 => a | k + 1 => A k, fun k hk => ?_, fun hnd j k hjk hk => ?_⟩
    · match k, hk with
      | 0, _ =>
        have := World.var?_cell hgn hv 0
        rw [Array.eq_one_of_toList hcl] at this
        exact ⟨by simpa using this, by simp [MemPlace.row]⟩
      | k + 1, hk =>
        have := h1 k (by simpa using hk)
        refine ⟨this.1, ?_⟩
        · simp only [List.mem_append]; exact Or.inr this.2
    · have hq' : q.Nodup := (List.nodup_append.1 hnd).2.1
      match j, k, hjk, hk with
      | 0, k + 1, _, hk =>
        have h3 := (h1 k (by simpa using hk)).2
        show a ≠ A k
        rintro rfl
        exact (List.nodup_append.1 hnd).2.2 (MemPlace.cell (A k).block (A k).off) (by simp [MemPlace.row]) _ h3 rfl
      | j + 1, k + 1, hjk, hk => exact h2 hq' j k (by omega) (by simpa using hk)

def errs9 : List (String × List UInt8) := [("enclose/enclose.ErrFloat", [110, 111, 32, 112, 108, 97, 105, 110, 32, 102, 108, 111, 97, 116]),
  ("enclose/enclose.ErrOrder", [101, 110, 100, 115, 32, 105, 110, 32, 116, 104, 101, 32, 119, 114, 111, 110, 103, 32, 111, 114, 100, 101, 114]),
  ("enclose/enclose.ErrRange", [111, 117, 116, 32, 111, 102, 32, 114, 97, 110, 103, 101]),
  ("enclose/enclose.ErrZero", [100, 105, 118, 105, 115, 105, 111, 110, 32, 98, 121, 32, 119, 104, 97, 116, 32, 104, 111, 108, 100, 115, 32, 48]),
  ("enclose/enclose.ErrNegative", [114, 111, 111, 116, 32, 111, 102, 32, 119, 104, 97, 116, 32, 105, 115, 32, 98, 101, 108, 111, 119, 32, 48]),
  ("enclose/enclose.ErrEmpty", [110, 111, 116, 104, 105, 110, 103, 32, 105, 110, 32, 99, 111, 109, 109, 111, 110]),
  ("enclose/enclose.ErrName", [110, 111, 32, 115, 117, 99, 104, 32, 111, 112, 101, 114, 97, 116, 105, 111, 110]),
  ("enclose/enclose.ErrShape", [119, 114, 111, 110, 103, 32, 115, 104, 97, 112, 101]),
  ("enclose/enclose.ErrSure", [110, 111, 116, 32, 115, 117, 114, 101, 32, 111, 102, 32, 97, 110, 32, 97, 110, 115, 119, 101, 114])]
def sentsL : List (String × DataW Unit) := errs9.map fun x => (x.1, .iface "*errors.errorString" (.ptr (.agg [.lit (.string x.2)])))
def handleL : List (String × DataW Unit) := [("errors.errorType", .iface "internal/reflectlite.rtype" (.agg [.ptr (.lit (.string [101, 114, 114, 111, 114]))]))]

theorem k_globals : (List.range 9).all (fun k => match errs9[k]? with | some x => Tryz.prog.globalNamed x.1 == some (gix k) && (Tryz.prog.globals[gix k]?).map (·.type) == some 70 | none => false) = true := by kernel_rfl
theorem k_et : Tryz.prog.globalNamed "errors.errorType" = some 9 := by kernel_rfl
theorem k_rt : (Tryz.prog.cutTypes.find? (·.1 == "internal/reflectlite.rtype")).map (·.2) = some 216 := by kernel_rfl
theorem k_oneRow : ((List.range 263).filter fun t => Tryz.prog.rowNamed t [101, 114, 114, 111, 114]) = [70] := by kernel_rfl
theorem k_size : Tryz.prog.types.size = 263 := by kernel_rfl
theorem k_star : "*" ++ "errors.errorString" = "*errors.errorString" := by decide
theorem k_row (u : TypeId) (h : Tryz.prog.typeName? 3 u = some "*errors.errorString") : u = 229 :=
  typeName_ptr_named (nm := "errors.errorString") (by rw [k_star]; kernel_rfl) (by kernel_rfl) (by decide) u (by rw [k_star]; exact h)
theorem k_cellsES : Tryz.prog.cellsOf 251 = 1 := by kernel_rfl
theorem k_cellsS : Tryz.prog.cellsOf 9 = 1 := by kernel_rfl

theorem sents_of_laid {W : World} (hd : laidMet Tryz.prog sentsL W) (hh : handlesMet Tryz.prog handleL W) : ∃ A, Sents A W := by
  obtain ⟨ps, hv, hnd, hr⟩ := hd
  obtain ⟨A, h1, h2⟩ := sents_vars (P := Tryz.prog) Tryz.underlying70 k_row Tryz.underlying229 Tryz.underlying251 rfl rfl Tryz.underlying9 k_cellsES k_cellsS errs9 gix ps hv
    (fun k hk => by
      have := List.all_eq_true.1 k_globals k (List.mem_range.2 hk)
      rw [List.getElem?_eq_getElem hk] at this
      simpa using this) hr
  have hl : errs9.length = 9 := rfl
  rw [hl] at h1 h2
  refine ⟨A, ?_, fun k hk => by simpa using (h1 k hk).1, fun k hk => (hr _ _ (h1 k hk).2).1, h2 hnd⟩
  obtain ⟨name, u, ty, e1, e2, e3, e4, e5⟩ := hh _ (List.mem_singleton.2 rfl)
  have en : name = [101, 114, 114, 111, 114] := (Option.some.inj e1).symm
  subst en
  obtain rfl := Option.some.inj (k_rt.symm.trans e2)
  have hm : ty ∈ (List.range 263).filter fun t => Tryz.prog.rowNamed t [101, 114, 114, 111, 114] := List.mem_filter.2 ⟨List.mem_range.2 (by rw [← k_size]; exact e3), e4⟩
  rw [k_oneRow] at hm
  obtain rfl := List.mem_singleton.1 hm
  have hh : typeHandle Tryz.prog 70 = .pointer (some ⟨11, 70, none⟩) := by kernel_rfl
  rw [hh] at e5
  simpa using World.var?_cell k_et e5 0
end Go.Proofs.YtonhpkigoplmaaaGreatDoor
namespace Go.Proofs.YtonhpkigoplmaaaGreatDoor
open Go.ChangeShapes Go.WideShapes Go.ChangeAt Go.RowKit Go.Deep

theorem pieces_k_own : ownKnob Tryz.prog.godebug = none := by kernel_rfl
theorem pieces_k_laidOut : laidOutB Tryz.prog = true := by kernel_rfl
theorem pieces_k_bytesOp : Tryz.prog.bytesOf 31 = 96 := by kernel_rfl
theorem pieces_k_readable : Tryz.prog.readableRec 22 = true := by kernel_rfl

theorem pieces_door_met (os : Os) (args : Array Value) : laidMetH Tryz.prog Rows.piecesRow.laid ((World.doorLaid Tryz.prog 187 os).forCall (fun _ _ => 0) ⟨#[], args, []⟩).memory :=
  laidMetH_of_parts3 (fuel := 8) (laidMet_of_run' 8 (by kernel_rfl) (by kernel_rfl)) (by kernel_rfl) (by kernel_rfl)

theorem pieces_laid {W : World} (h : laidMetH Tryz.prog Rows.piecesRow.laid W) : ∃ A, Sents A W := by
  have h' : laidMet Tryz.prog sentsL W ∧ handlesMet Tryz.prog handleL W := h
  exact sents_of_laid h'.1 h'.2

set_option maxRecDepth 100000 in
theorem pieces_lifted (os : Os) (started : os.Started) (H : Type) (enc : TypeId × Value → H) :
    ReturnsInHanded {} Tryz.checked os 9 .any (fun w args => (Rows.piecesSpec.pre enc Tryz.prog Tryz.f9 [] false w args ∧ laidMetH Tryz.prog Rows.piecesRow.laid w) ∧ sizedMet enc Tryz.prog Tryz.f9 (OpenSpec.ofChange Rows.piecesSpec) false w args)
      (Rows.piecesSpec.post enc Tryz.prog Tryz.f9 false true false false) := by
  refine returnsInHanded_of_change_and (C := Tryz.checked) (X := fun w _ => laidMetH Tryz.prog Rows.piecesRow.laid w) (fun _ _ _ hh h => h.of_heap hh) pieces_k_own started (by kernel_rfl) Tryz.func9
    (ChangeSpec.witness_shaped (enc := enc) (C := Tryz.checked) (os := os) (X := fun w _ => laidMetH Tryz.prog Rows.piecesRow.laid w) false (World.doorLaid Tryz.prog 187 os) #[.slice none 0 0] 8 rfl (World.shaped_of_RefB (by kernel_rfl) (by kernel_rfl)) (by kernel_rfl) (by kernel_rfl) (by kernel_rfl) (pieces_door_met os _)) ?_
  intro W base args ds gs before hval0 hW _ hsz0 hL _
  have hval : ∀ (j : Nat) t v, Tryz.f9.params[j]? = some t → args[j]? = some v → Value.okWide Tryz.prog W .any base t v := hval0
  have hW' := hW
  obtain ⟨p, q, hA0, hV, rfl, hfz, hnd⟩ := hW
  have hA : DataW.TrodAll enc Tryz.prog W 0 (fun _ => true) true Tryz.f9.params.toList args.toList ds p := hA0
  have hsz : (DataW.weightsEach Tryz.prog (Tryz.f9.params.toList ++ Rows.piecesSpec.plain.varTypes Tryz.prog) (ds ++ gs)).all (· ≤ reachBytes) = true := hsz0
  rw [Tryz.params9] at hA hval hsz
  obtain ⟨v0, d0, hargs, rfl, h0⟩ := trodAll_one hA
  obtain ⟨rfl, rfl⟩ := trodVars_none hV
  obtain ⟨A, hS⟩ := pieces_laid hL
  obtain rfl : args = #[v0] := by
    obtain ⟨l⟩ := args
    simpa using hargs
  have hlt : ∀ x ∈ p, x.block < W.heap.size := fun x hx => by simpa using hW'.lt x (by simpa using hx)
  have h0k := h0
  obtain ⟨fuel, hf⟩ := h0
  obtain ⟨z, ao, n, c, rfl, hz, hx, hd⟩ := script_of hf (okWide_slice Tryz.underlying22 (hval 0 22 v0 rfl rfl))
  have hn : n ≤ 1466015503701 := by
    rcases hd with ⟨_, h⟩ | ⟨es, sp, rfl, hlen⟩
    · omega
    · have := sized_slice hsz (j := 0) (t := 22) (e := 31) rfl rfl Tryz.underlying22
      rw [pieces_k_bytesOp] at this
      simp only [reachBytes] at this
      omega
  have hPx : ∀ i, i < n → ∃ q : Nat → Nat, WdV W (z.po i) (z.pl i) q ∧ z.pl i * 8 ≤ 140737488355328 := by
    intro i hi
    obtain ⟨g, off, rfl, hg, hat⟩ := hz.resolve_left (by omega)
    obtain ⟨-, -, -, -, -, -, -, -, c8⟩ := hat i hi
    obtain ⟨⟨q, hq⟩, hk⟩ := script_words hf hi c8
    refine ⟨q, hq, ?_⟩
    rcases hk with h0 | ⟨k, hk, hle⟩
    · omega
    · have := List.all_eq_true.1 hsz k (DataW.weights_mem_each (j := 0) (t := 22) (d := d0) rfl rfl k hk)
      have h2 : k ≤ reachBytes := by simpa using this
      simp only [reachBytes] at h2
      omega
  obtain ⟨P, hP⟩ := choose_lt hPx
  refine (pieces_any A z P ao n c W hn hS hz (fun i hi => (hx i hi).1) hP).mono fun e W' ⟨he, hb⟩ => ?_
  subst he
  have e1 : Rows.piecesSpec.fn H ([d0] ++ []) = { results := [.lit (.bool true)], args := [d0] } := by simp [Rows.piecesSpec]
  refine ⟨_, rfl, _, _, _, [], p, [], hW', ?_, ?_, ?_, hb.frame _, fun h => by cases h⟩
  · rw [e1]; exact trodAll_mk1 (shut_bool Tryz.underlying4 true)
  · rw [e1]; exact trodAll_mk1 (Below.trod pieces_k_laidOut pieces_k_readable (of_decide_eq_true (by kernel_rfl)) h0k hb hlt)
  · rw [e1]; rfl

theorem pieces_holds : Rows.PiecesSaid :=
  OpenClaim.holds_of_wide 9 Tryz.f9 rfl rfl rfl rfl rfl rfl rfl ⟨rfl, rfl, rfl, rfl, rfl⟩ rfl rfl rfl rfl rfl (by kernel_rfl) Tryz.func9 (by kernel_rfl)
    (of_decide_eq_true (by kernel_rfl)) (by unfold Func.isWrapper; rw [if_neg (of_decide_eq_false (by kernel_rfl))]; exact ⟨rfl, rfl⟩)
    (fun os started H enc _ => pieces_lifted os started H enc)

theorem pieces_card : Rows.PiecesCardSaid :=
  Claim7.holds_tied_plain_at .later [] _ _ _ _ pieces_holds (fun _ h => by cases h) (by kernel_rfl) (fun _ h => by cases h) pieces_row_tie rfl ⟨rfl, rfl⟩ (by kernel_rfl) rfl
    (fun f fn hf hfn => by
      obtain rfl : f = 9 := Option.some.inj ((show Tryz.prog.funcNamed "enclose/encloselaw.Pieces" = some 9 by kernel_rfl).symm.trans hf) |>.symm
      obtain rfl : fn = Tryz.f9 := (Option.some.inj (Tryz.func9.symm.trans hfn)).symm
      exact ⟨by kernel_rfl, fun j t ht => by
        rw [Tryz.params9] at ht
        have h3 : t = 22 := by
          rcases j with _ | j
          · simpa using ht.symm
          · simp at ht
        subst h3
        exact (show Tryz.prog.wantsStandIn 22 = false by kernel_rfl)⟩)
    (by kernel_rfl)
#print axioms pieces_card
end Go.Proofs.YtonhpkigoplmaaaGreatDoor
