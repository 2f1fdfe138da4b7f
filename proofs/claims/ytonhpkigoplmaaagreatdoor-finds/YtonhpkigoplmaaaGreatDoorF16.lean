/-
  FindX, LawF, Laid, FindsProof.
-/
import Derived.Test.YtonhpkigoplmaaaGreatDoorF12
import Derived.Test.YtonhpkigoplmaaaGreatDoorF13
import Derived.Test.YtonhpkigoplmaaaGreatDoorF15
import Derived.Test.YtonhpkigoplmaaaGreatDoorF11
import Derived.Test.YtonhpkigoplmaaaGreatDoorF03
import Derived.LaidLaws
import Derived.LaidHandle
import Derived.Stop.LaidTwo
import Derived.Test.YtonhpkigoplmaaaGreatDoorRows
import Derived.Test.YtonhpkigoplmaaaGreatDoorCards
import Derived.Test.YtonhpkigoplmaaaGreatDoorTie
import Derived.ProofKit
import Derived.LaidMore
import Derived.OpenShut
import Derived.Stop.Joined
import Derived.SevenTiedAt
import Derived.SizedLaws
namespace Go.Proofs.YtonhpkigoplmaaaGreatDoor
open Go.RowKit

theorem blk4i {W : World} {g : Nat} {a b c d : Value} {t : TypeId} (h : W.heap[g]? = some (.cells #[a, b, c, d] t (0, 0))) : W.cell? ⟨g, 0, none⟩ = some a ∧ W.cell? ⟨g, 1, none⟩ = some b ∧ W.cell? ⟨g, 2, none⟩ = some c ∧ W.cell? ⟨g, 3, none⟩ = some d := by
  refine ⟨?_, ?_, ?_, ?_⟩ <;> simp [World.cell?, h]

theorem LSt.cells2 {w W : World} {c0 c1 c2 c3 c4 c5 c6 c7 c8 : Value} (m : LSt w W #[c0, c1, c2, c3, c4, c5, c6, c7, c8]) : W.cell? ⟨w.heap.size, 1, none⟩ = some c1 ∧ W.cell? ⟨w.heap.size, 2, none⟩ = some c2 := by
  obtain ⟨-, k1, k2, -, -, -, -, -, -⟩ := blk9 m.k0
  exact ⟨k1, k2⟩

theorem wvs_snoc (ps : Nat → Nat) (i : Nat) : wvs ps i ++ [.int .u64 (ps i : Int)] = wvs ps (i + 1) := by
  unfold wvs; rw [List.range_succ, List.map_append]; rfl
theorem upush_step {B : Nat} {w wr w1 : World} {v v' : Value} {i : Nat} {ps : Nat → Nat} {X : Obj} (hown : wr.ownsRow B 26 1 v i (wvs ps i)) (hb : Below B w wr) (hB : B ≤ w.heap.size)
    (hown' : w1.ownsRow B 26 1 v' (i + 1) (wvs ps i ++ [.int .u64 (ps i : Int)])) (hgrow : (wr.alloc X).grownBy w1 v.ownBlock) :
    w1.ownsRow B 26 1 v' (i + 1) (wvs ps (i + 1)) ∧ Below B w w1 := by
  have hs := hb.size
  refine ⟨by rw [← wvs_snoc]; exact hown', ?_⟩
  exact (hb.alloc (by omega) X).grown hgrow (by simp; omega) (fun k hk => (hown.lt k hk).1)

theorem run_geq_int (W : World) (r t : Int) (b : Bool) (h : decide (t ≤ r) = b) : (binOp .geq 3 (.int .i64 r) (.int .i64 t)).run Tryz.prog W = .ok (.bool b) W := by
  subst h
  simp [binOp, go_sem]
theorem run_leq_int (W : World) (r t : Int) (b : Bool) (h : decide (r ≤ t) = b) : (binOp .leq 3 (.int .i64 r) (.int .i64 t)).run Tryz.prog W = .ok (.bool b) W := by
  subst h
  simp [binOp, go_sem]

def pick3 (a b c : Int) : Nat → Int
  | 0 => a
  | 1 => b
  | _ => c

/-- A world behind another one, and a box made since. -/
structure BSt (R W : World) : Prop where
  hb : Below R.heap.size R W
theorem BSt.below {R W W' : World} (m : BSt R W) (hb : Below W.heap.size W W') : BSt R W' := ⟨m.hb.trans (hb.mono m.hb.size)⟩
theorem BSt.alloc {R W : World} (m : BSt R W) (o : Obj) : BSt R (W.alloc o) := ⟨m.hb.alloc m.hb.size o⟩
theorem BSt.drew {R W : World} (m : BSt R W) : BSt R W.drew := ⟨m.hb.drew⟩
def QB (R W : World) (g : Nat) (x y : Value) : Prop := W.heap[g]? = some (.cells #[x, y] 33 (0, 0)) ∧ R.heap.size ≤ g
theorem QB.below {R W W' : World} {g : Nat} {x y : Value} (h : QB R W g x y) (hb : Below W.heap.size W W') : QB R W' g x y := ⟨blk_below h.1 hb, h.2⟩
theorem QB.drew {R W : World} {g : Nat} {x y : Value} (h : QB R W g x y) : QB R W.drew g x y := h
theorem QB.new {R W : World} {x y : Value} (m : BSt R W) : QB R (W.alloc (Obj.cells #[x, y] 33)) W.heap.size x y := ⟨blk_new W _, m.hb.size⟩
theorem QB.same {R W : World} {g : Nat} {x y : Value} (h : QB R W g x y) (u v : Value) : QB R ((W.setCell ⟨g, 0, none⟩ u).setCell ⟨g, 1, none⟩ v) g u v := ⟨blk_store2 h.1, h.2⟩
theorem BSt.set2 {R W : World} {g : Nat} {x y : Value} (m : BSt R W) (z : QB R W g x y) (u v : Value) : BSt R ((W.setCell ⟨g, 0, none⟩ u).setCell ⟨g, 1, none⟩ v) := ⟨(m.hb.setCell (by exact z.2) _).setCell (by exact z.2) _⟩
theorem BSt.cell {R W : World} (m : BSt R W) {b o : Nat} {v : Value} (h : R.cell? ⟨b, o, none⟩ = some v) : W.cell? ⟨b, o, none⟩ = some v := by
  rw [m.hb.cell (by exact lt_of_cell h)]; exact h

set_option maxHeartbeats 16000000 in
set_option maxRecDepth 100000 in
theorem finds_walk (A : Nat → Addr) (k oa ob : Int) (s : ByteArray) (xl xh yl yh : Nat) (po : Option Addr) (n pc : Nat) (sb : Int) (w : World) (hS : Sents A w)
    (hs : ∀ W, Calls Tryz.prog 19 #[.int .i64 ob, .int .i64 5] W fun e w' => e = .returned (.int .i64 sb) ∧ Below W.heap.size W w') (sb1 : -16 ≤ sb) (sb2 : sb ≤ 15) :
    Calls Tryz.prog 16 #[.agg #[Value.int IntKind.i64 k, Value.int IntKind.i64 oa, Value.int IntKind.i64 ob, Value.string s, Value.int IntKind.u64 (xl : Int), Value.int IntKind.u64 (xh : Int), Value.int IntKind.u64 (yl : Int), Value.int IntKind.u64 (yh : Int), Value.slice po n pc]] w fun e w' => e = .returned (.bool true) ∧ Below w.heap.size w w' := by
  have H4 : Hid (∀ (m : Int) (W : World), Calls Tryz.prog 19 #[.int .i64 m, .int .i64 4] W fun e w' => ∃ v, e = .returned (.int .i64 v) ∧ -8 ≤ v ∧ v ≤ 7 ∧ Below W.heap.size W w') := fun m W => (small4_any m W).mono (fun e w' h => ⟨_, h.1, by omega, by omega, h.2⟩)
  have HS5 := hid hs
  obtain ⟨i0, hi, hz0, hz1, hz2⟩ := info_parts infoU64
  have HW : Hid (∀ (m : Int) (W : World), Below w.heap.size w W → m.natAbs ≤ 1000 → Calls Tryz.prog 20 #[.int .i64 m] W fun e w' => e = .returned (.tuple #[.agg #[.int .u64 (fl m : Int), .int .u64 (fl m : Int)], .bool true]) ∧ Below W.heap.size W w') := by
    intro m W hb hm
    have := whole_law A m W (by omega) (hS.below hb (Nat.le_refl _))
    rwa [(same_whole (n := m) (by omega)).1] at this
  have HR : Hid (∀ (W : World) (bo : Option Addr) (bc : Nat) (ps : Nat → Nat) (lo hi d : Int), Below w.heap.size w W → WdV W bo 4 ps → rightN ps 4 = 0 → lo.natAbs ≤ 1000 → hi.natAbs ≤ 1000 → lo ≤ hi → 0 ≤ d → d ≤ 8 → Calls Tryz.prog 23 #[.slice bo 4 bc, .agg #[.int .u64 (fl lo : Int), .int .u64 (fl hi : Int)], .int .i64 d, .int .i64 0] W fun e w' => ∃ a1 c1 v2, e = .returned (.tuple #[.slice a1 (pieceN ps 4 d.toNat (fl lo) (fl hi)).length c1, v2, .int .i64 0]) ∧ BxV w' a1 (pieceN ps 4 d.toNat (fl lo) (fl hi)).length (fun i => (pieceN ps 4 d.toNat (fl lo) (fl hi)).getD i (0, 0)) ∧ Below W.heap.size W w') := by
    intro W bo bc ps lo hi d hb h hr hlo hhi hle h0 h8
    have iv := iv_fls (x := lo) (y := hi) (by omega) (by omega) hle
    have he : rootsE ps 4 d = 0 := by unfold rootsE; rw [if_neg (by omega), if_neg (by omega)]
    refine (plainRoots_ref A bo 4 bc ps (fl lo) (fl hi) d 0 W (hS.below hb (Nat.le_refl _)) h (by decide) iv.lt1 iv.lt2).mono ?_
    rintro e w' ⟨v1, v2, rfl, o1, -, hb'⟩
    rw [make_iv iv] at o1
    unfold rootsL at o1
    rw [he] at o1 ⊢
    rw [if_pos rfl] at o1
    obtain ⟨a1, c1, rfl, -, x1⟩ := BxV.of_owns _ o1
    exact ⟨a1, c1, v2, rfl, x1, hb'⟩
  clear hs hS
  go_enter Tryz.func16, Tryz.ntmps16
  go_wp2_with fail
  have m1 : Hid (LSt w (w.alloc (Obj.cells #[Value.int IntKind.i64 k, Value.int IntKind.i64 oa, Value.int IntKind.i64 ob, Value.string s, Value.int IntKind.u64 (xl : Int), Value.int IntKind.u64 (xh : Int), Value.int IntKind.u64 (yl : Int), Value.int IntKind.u64 (yh : Int), Value.slice po n pc] 31)) #[Value.int IntKind.i64 k, Value.int IntKind.i64 oa, Value.int IntKind.i64 ob, Value.string s, Value.int IntKind.u64 (xl : Int), Value.int IntKind.u64 (xh : Int), Value.int IntKind.u64 (yl : Int), Value.int IntKind.u64 (yh : Int), Value.slice po n pc]) := ⟨blk_new w _, (Below.refl _ _).alloc (Nat.le_refl _) _, by simp⟩
  generalize (w.alloc (Obj.cells #[Value.int IntKind.i64 k, Value.int IntKind.i64 oa, Value.int IntKind.i64 ob, Value.string s, Value.int IntKind.u64 (xl : Int), Value.int IntKind.u64 (xh : Int), Value.int IntKind.u64 (yl : Int), Value.int IntKind.u64 (yh : Int), Value.slice po n pc] 31)) = W1 at *
  refine Calls.mono (H4.out _ _) ?_
  rintro e w1 ⟨a, rfl, a1, a2, hb⟩
  have m1 : Hid (LSt w w1 #[Value.int IntKind.i64 k, Value.int IntKind.i64 oa, Value.int IntKind.i64 ob, Value.string s, Value.int IntKind.u64 (xl : Int), Value.int IntKind.u64 (xh : Int), Value.int IntKind.u64 (yl : Int), Value.int IntKind.u64 (yh : Int), Value.slice po n pc]) := m1.out.below hb
  obtain ⟨q1, q2⟩ := m1.out.cells2
  clear hb
  go_wp2_with fail
  refine Calls.mono (H4.out _ _) ?_
  rintro e w2 ⟨b, rfl, b1, b2, hb⟩
  have m1 : Hid (LSt w w2 #[Value.int IntKind.i64 k, Value.int IntKind.i64 oa, Value.int IntKind.i64 ob, Value.string s, Value.int IntKind.u64 (xl : Int), Value.int IntKind.u64 (xh : Int), Value.int IntKind.u64 (yl : Int), Value.int IntKind.u64 (yh : Int), Value.slice po n pc]) := m1.out.below hb
  clear hb q1 q2
  obtain ⟨q1, q2⟩ := m1.out.cells2
  go_wp2_with fail
  refine Calls.mono (H4.out _ _) ?_
  rintro e w3 ⟨c, rfl, c1, c2, hb⟩
  have m1 : Hid (LSt w w3 #[Value.int IntKind.i64 k, Value.int IntKind.i64 oa, Value.int IntKind.i64 ob, Value.string s, Value.int IntKind.u64 (xl : Int), Value.int IntKind.u64 (xh : Int), Value.int IntKind.u64 (yl : Int), Value.int IntKind.u64 (yh : Int), Value.slice po n pc]) := m1.out.below hb
  clear hb q1 q2 H4
  have ha : a.natAbs ≤ 8 := by omega
  have hbn : b.natAbs ≤ 8 := by omega
  have hcn : c.natAbs ≤ 8 := by omega
  have hna : (-a).natAbs ≤ 8 := by omega
  have m1 := mul_b hna hbn
  have m2 := mul_b m1 hcn
  have m3 := mul_b ha hbn
  have m4 := mul_b ha hcn
  have m5 := mul_b hbn hcn
  have n1 : -64 ≤ -a * b ∧ -a * b ≤ 64 := by omega
  have n2 : -512 ≤ -a * b * c ∧ -a * b * c ≤ 512 := by omega
  have n3 : -64 ≤ a * b ∧ a * b ≤ 64 := by omega
  have n4 : -64 ≤ a * c ∧ a * c ≤ 64 := by omega
  have n5 : -64 ≤ b * c ∧ b * c ≤ 64 := by omega
  obtain ⟨n1a, n1b⟩ := n1
  obtain ⟨n2a, n2b⟩ := n2
  obtain ⟨n3a, n3b⟩ := n3
  obtain ⟨n4a, n4b⟩ := n4
  obtain ⟨n5a, n5b⟩ := n5
  clear m1 m2 m3 m4 m5
  go_wp2_with fail
  have HCS : Hid (∀ i, i < 4 → (w3.alloc (Obj.cells #[.int .i64 (-a * b * c), .int .i64 (a * b + a * c + b * c), .int .i64 (-a - b - c), .int .i64 1] 3)).cell? ⟨w3.heap.size, i, none⟩ = some (.int .i64 (csI a b c i))) := by
    intro i hi
    obtain ⟨k0, k1, k2, k3⟩ := blk4i (blk_new w3 (Obj.cells #[.int .i64 (-a * b * c), .int .i64 (a * b + a * c + b * c), .int .i64 (-a - b - c), .int .i64 1] 3))
    match i, hi with
    | 0, _ => exact k0
    | 1, _ => exact k1
    | 2, _ => exact k2
    | 3, _ => exact k3
  have m1 := hid (m1.out.alloc (Obj.cells #[.int .i64 (-a * b * c), .int .i64 (a * b + a * c + b * c), .int .i64 (-a - b - c), .int .i64 1] 3))
  have hlc : w3.heap.size < (w3.alloc (Obj.cells #[.int .i64 (-a * b * c), .int .i64 (a * b + a * c + b * c), .int .i64 (-a - b - c), .int .i64 1] 3)).heap.size := by simp
  have hcb := cs_b ha hbn hcn
  generalize w3.heap.size = gc at *
  generalize (w3.alloc (Obj.cells #[.int .i64 (-a * b * c), .int .i64 (a * b + a * c + b * c), .int .i64 (-a - b - c), .int .i64 1] 3)) = wL at *
  go_loopw [7, 8] (fun v x wr => ∃ i : Nat, i ≤ 4 ∧ x = .int .i64 (i : Int) ∧ wr.ownsRow wL.heap.size 26 1 v i (wvs (fun j => fl (csI a b c j)) i) ∧ Below wL.heap.size wL wr) (fun _ x _ => 4 - (intOf x).toNat)
  case atStart => exact ⟨0, Nat.zero_le _, rfl, World.ownsRow_nil _ _ _ _, Below.refl _ _⟩
  case round =>
    obtain ⟨i, hi1, rfl, hown, hb⟩ := hrel
    by_cases hin : i < 4
    · have hci := HCS.out i hin
      rw [← hb.cell (by exact hlc)] at hci
      have HO := hid hown
      have HB := hid hb
      clear hown hb
      go_wp2_with fail
      refine Calls.mono (HW.out _ _ (m1.out.hb.trans (HB.out.mono m1.out.hb.size)) (by have := hcb i; omega)) ?_
      rintro e w4 ⟨rfl, hb4⟩
      have HO : Hid (w4.ownsRow wL.heap.size 26 1 _ i (wvs (fun j => fl (csI a b c j)) i)) := ownsRow_mono HO.out hb4 (Nat.le_refl _)
      have HB : Hid (Below wL.heap.size wL w4) := HB.out.trans (hb4.mono HB.out.size)
      clear hb4 hci
      go_wp2_with (first
        | (at_builtin; refine wpList_append_own _ rfl _ _ 29 rfl wL.heap.size 26 i0 (.int .u64 0) 1 8 Tryz.underlying29 hi hz0 hz1 hz2 rfl (by decide) _ _ _ rfl ((HO.out.alloc _).alloc _) ⟨(w4.alloc (Obj.cells #[.int .u64 (fl (csI a b c i) : Int), .int .u64 (fl (csI a b c i) : Int)] 33)).heap.size, 0, none⟩ 1 1 [.int .u64 (fl (csI a b c i) : Int)] (by simp [Act.eval]) rfl (cell_one_new _ _ _) (by simp [Value.oneCell']) (by unfold maxLen; omega) (by omega) (by have := HB.out.size; simp; omega) ?_)
        | go_in)
      intro v' w1 hown' hgrow _
      have R := upush_step (HO.out.alloc (Obj.cells #[.int .u64 (fl (csI a b c i) : Int), .int .u64 (fl (csI a b c i) : Int)] 33)) (HB.out.alloc HB.out.size _) (Nat.le_refl _) hown' hgrow
      clear hown' hgrow HO HB
      go_wp2
      go_roundw
      case rel => exact ⟨i + 1, by omega, by go_num, R.1, R.2⟩
      case measure => simp [intOf]; omega
    · have e : i = 4 := by omega
      subst e
      obtain ⟨bo, bc, rfl, hv⟩ := WdV.of_owns hown (fun j hj => (iv_fl (v := csI a b c j) (by have := hcb j; omega)).lt1)
      have HV := hid hv
      have m2 := hid (m1.out.below hb)
      have q2 := (m2.out.cells2).2
      clear hown hb hv HCS hlc m1 n1a n1b n2a n2b n3a n3b n4a n4b n5a n5b hna
      go_wp2_with fail
      refine Calls.mono (HS5.out _) ?_
      rintro e w4 ⟨rfl, hb4⟩
      have HV := hid (HV.out.below hb4)
      have m2 := hid (m2.out.below hb4)
      clear hb4 q2
      go_wp2_with fail
      refine Calls.mono (HW.out _ _ m2.out.hb (by omega)) ?_
      rintro e w5 ⟨rfl, hb5⟩
      have HV := hid (HV.out.below hb5)
      have m2 := hid (m2.out.below hb5)
      clear hb5
      have l5 := i64_low5 (ob / 32)
      have l3 := i64_low3 (ob / 1024)
      have t1 : 0 ≤ ob / 32 % 32 := by omega
      have t2 : ob / 32 % 32 < 32 := by omega
      have d1 : 0 ≤ ob / 1024 % 8 := by omega
      have d2 : ob / 1024 % 8 < 8 := by omega
      go_wp2_with fail
      have B1 := hid (blk_new w5 (Obj.cells #[.int .u64 (fl (sb - 1) : Int), .int .u64 (fl (sb - 1) : Int)] 33))
      have HV := hid (HV.out.below ((Below.refl _ w5).alloc (Nat.le_refl _) (Obj.cells #[.int .u64 (fl (sb - 1) : Int), .int .u64 (fl (sb - 1) : Int)] 33)))
      have m2 := hid (m2.out.alloc (Obj.cells #[.int .u64 (fl (sb - 1) : Int), .int .u64 (fl (sb - 1) : Int)] 33))
      generalize w5.heap.size = g1 at *
      generalize (w5.alloc (Obj.cells #[.int .u64 (fl (sb - 1) : Int), .int .u64 (fl (sb - 1) : Int)] 33)) = R at *
      have q2 := (m2.out.cells2).2
      go_cut [13, 14] (fun s13 s14 wc => ∃ g, s13 = .pointer (some ⟨g, 0, none⟩) ∧ s14 = .bool true ∧ BSt R wc ∧ QB R wc g (.int .u64 (fl (sb + ob / 32 % 32) : Int)) (.int .u64 (fl (sb + ob / 32 % 32) : Int)))
      case first =>
        have hwr : IntKind.i64.wrap (sb + ob / 32 % 32) = sb + ob / 32 % 32 := by rw [IntKind.wrap_i64]; omega
        have m1 : Hid (BSt R R) := ⟨Below.refl _ _⟩
        have iN : Hid (BSt R R.drew) := m1.out.drew
        go_region_held3 (fun W => W.cell? ⟨w.heap.size, 2, none⟩ = some (.int .i64 ob)) (first | with_reducible exact iN.out.cell q2 | with_reducible exact (iN.out.alloc _).cell q2 | with_reducible exact (m1.out.alloc _).drew.cell q2 | with_reducible exact (iN.out.set2 zf.out _ _).cell q2)
          (first
            | (go_at_call 19; with_reducible (refine Calls.mono (HS5.out _) ?_); rintro e v0 ⟨rfl, hbk⟩
               try (have zf : Hid (QB R v0 _ _ _) := zf.out.below hbk)
               have iN : Hid (BSt R v0) := iN.out.below hbk
               clear hbk)
            | (go_at_call 19; with_reducible (refine Calls.mono (HS5.out _) ?_); rintro e v0 ⟨rfl, hbk⟩
               have zf : Hid (QB R v0 _ _ _) := (QB.new m1.out).drew.below hbk
               have iN : Hid (BSt R v0) := (m1.out.alloc _).drew.below hbk
               clear hbk)
            | (go_at_call 20; with_reducible (refine Calls.mono (HW.out _ _ ?_ ?_) ?_); (with_reducible exact m2.out.hb.trans (iN.out.hb.mono m2.out.hb.size)); omega; rintro e v1 ⟨rfl, hbk⟩
               try (have zf : Hid (QB R v1 _ _ _) := zf.out.below hbk; obtain ⟨zc0, zc1, zc2, zc3⟩ := blk2 zf.out.1)
               have iN : Hid (BSt R v1) := iN.out.below hbk
               clear hbk)
            | (go_at_call 20; with_reducible (refine Calls.mono (HW.out _ _ ?_ ?_) ?_); (with_reducible exact m2.out.hb.trans ((iN.out.alloc _).hb.mono m2.out.hb.size)); omega; rintro e v1 ⟨rfl, hbk⟩
               have zf : Hid (QB R v1 _ _ _) := (QB.new iN.out).below hbk
               obtain ⟨zc0, zc1, zc2, zc3⟩ := blk2 zf.out.1
               have iN : Hid (BSt R v1) := (iN.out.alloc _).below hbk
               clear hbk))
        all_goals (go_wp2_with fail; go_meet; refine ⟨_, rfl, rfl, ?_, ?_⟩)
        all_goals first | with_reducible exact iN.out.set2 zf.out _ _ | with_reducible exact zf.out.same _ _ | with_reducible exact iN.out.alloc _ | with_reducible exact QB.new iN.out
      case rest =>
        obtain ⟨g, rfl, rfl, hR, hQ⟩ := hcut
        have HV := hid (HV.out.below hR.hb)
        have m2 := hid (m2.out.below hR.hb)
        have B1 := hid (blk_below B1.out hR.hb)
        have B2 := hid hQ.1
        obtain ⟨x0, x1, -, -⟩ := blk2 B1.out
        obtain ⟨y0, y1, -, -⟩ := blk2 B2.out
        have q2 := (m2.out.cells2).2
        have hwd : IntKind.i64.wrap (1 + ob / 1024 % 8) = 1 + ob / 1024 % 8 := by rw [IntKind.wrap_i64]; omega
        clear hR hQ
        go_wp2_with fail
        have hps : ∀ i, i < 4 → (fun j => fl (csI a b c j)) i = fl (csI a b c i) := fun i _ => rfl
        refine Calls.mono (HR.out _ bo bc (fun j => fl (csI a b c j)) (sb - 1) (sb + ob / 32 % 32) (1 + ob / 1024 % 8) m2.out.hb HV.out (right_cs hps (fun i _ => by have := hcb i; omega)) (by omega) (by omega) (by omega) (by omega) (by omega)) ?_
        rintro e w6 ⟨a1, c1, v2, rfl, hx, hb6⟩
        have m2 := hid (m2.out.below hb6)
        have HX := hid hx
        have q2 := (m2.out.cells2).2
        clear hx hb6 x0 x1 y0 y1 B1 B2 HV
        go_wp2_with fail
        have hL : ∀ r : Int, r = a ∨ r = b ∨ r = c → sb - 1 ≤ r → r ≤ sb + ob / 32 % 32 → ∃ q, q ∈ pieceN (fun j => fl (csI a b c j)) 4 (1 + ob / 1024 % 8).toNat (fl (sb - 1)) (fl (sb + ob / 32 % 32)) ∧ lessT (wholeN r) (plT q.1) = false ∧ lessT (plT q.2) (wholeN r) = false := fun r hr h1 h2 => find_piece _ ha hbn hcn hr (by omega) (by omega) (fun _ _ => rfl) h1 h2
        have hI : ∀ q, q ∈ pieceN (fun j => fl (csI a b c j)) 4 (1 + ob / 1024 % 8).toNat (fl (sb - 1)) (fl (sb + ob / 32 % 32)) → Iv q.1 q.2 := piece_iv _ _ _ (iv_fls (by omega) (by omega) (by omega))
        have hlen : (pieceN (fun j => fl (csI a b c j)) 4 (1 + ob / 1024 % 8).toNat (fl (sb - 1)) (fl (sb + ob / 32 % 32))).length ≤ 256 := by
          have h1 := pieceN_len (fun j => fl (csI a b c j)) 4 (1 + ob / 1024 % 8).toNat (fl (sb - 1)) (fl (sb + ob / 32 % 32))
          have h2 : 2 ^ (1 + ob / 1024 % 8).toNat ≤ 2 ^ 8 := Nat.pow_le_pow_right (by decide) (by omega)
          have h3 : 2 ^ 8 = 256 := by decide
          omega
        generalize pieceN (fun j => fl (csI a b c j)) 4 (1 + ob / 1024 % 8).toNat (fl (sb - 1)) (fl (sb + ob / 32 % 32)) = L at *
        have HCS : Hid (∀ i, i < 3 → (w6.alloc (Obj.cells #[.int .i64 a, .int .i64 b, .int .i64 c] 3)).cell? ⟨w6.heap.size, i, none⟩ = some (.int .i64 (pick3 a b c i)) ∧ (pick3 a b c i = a ∨ pick3 a b c i = b ∨ pick3 a b c i = c)) := by
          intro i hi
          obtain ⟨k0, k1, k2, -, -, -⟩ := blk3 (blk_new w6 (Obj.cells #[.int .i64 a, .int .i64 b, .int .i64 c] 3))
          match i, hi with
          | 0, _ => exact ⟨k0, .inl rfl⟩
          | 1, _ => exact ⟨k1, .inr (.inl rfl)⟩
          | 2, _ => exact ⟨k2, .inr (.inr rfl)⟩
        have HX := hid (HX.out.below ((Below.refl _ w6).alloc (Nat.le_refl _) (Obj.cells #[.int .i64 a, .int .i64 b, .int .i64 c] 3)))
        have m2 := hid (m2.out.alloc (Obj.cells #[.int .i64 a, .int .i64 b, .int .i64 c] 3))
        have hlg : w6.heap.size < (w6.alloc (Obj.cells #[.int .i64 a, .int .i64 b, .int .i64 c] 3)).heap.size := by simp
        have q2 := (m2.out.cells2).2
        have HLL := hid hL
        have HII := hid hI
        clear hL hI hps hcb HW HR l3 d1 d2 hwd
        generalize w6.heap.size = g3 at *
        generalize (w6.alloc (Obj.cells #[.int .i64 a, .int .i64 b, .int .i64 c] 3)) = W7 at *
        go_loopw [130] (fun x wr => ∃ i : Nat, i ≤ 3 ∧ x = .int .i64 (i : Int) ∧ Below W7.heap.size W7 wr) (fun x _ => 3 - (intOf x).toNat)
        case atStart => exact ⟨0, Nat.zero_le _, rfl, Below.refl _ _⟩
        case round =>
          obtain ⟨i, hi1, rfl, hb⟩ := hrel
          by_cases hin : i < 3
          · obtain ⟨hci, hpk⟩ := HCS.out i hin
            rw [← hb.cell (by exact hlg)] at hci
            have q3 := q2
            rw [← hb.cell (by exact lt_of_cell q2)] at q3
            have HB := hid hb
            have HX := hid (HX.out.below hb)
            have HPK := hid hpk
            clear hb hpk HCS q2
            generalize pick3 a b c i = r at *
            go_wp2_with fail
            go_cut [20] (fun s20 wc => s20 = .bool (decide (sb - 1 ≤ r) && decide (r ≤ sb + ob / 32 % 32)) ∧ BSt wr wc)
            case first =>
              have hwr : IntKind.i64.wrap (sb + ob / 32 % 32) = sb + ob / 32 % 32 := by rw [IntKind.wrap_i64]; omega
              have hws : IntKind.i64.wrap (sb - 1) = sb - 1 := by rw [IntKind.wrap_i64]; omega
              have m1 : Hid (BSt wr wr) := ⟨Below.refl _ _⟩
              have iN : Hid (BSt wr wr.drew) := m1.out.drew
              by_cases h1 : sb - 1 ≤ r
              · have hge := fun W => run_geq_int W r (sb - 1) true (decide_eq_true h1)
                by_cases h2 : r ≤ sb + ob / 32 % 32
                · have hle := fun W => run_leq_int W r (sb + ob / 32 % 32) true (decide_eq_true h2)
                  go_region_held3 (fun W => W.cell? ⟨w.heap.size, 2, none⟩ = some (.int .i64 ob)) (first | with_reducible exact iN.out.cell q3)
                    (first
                      | (go_at_call 19; with_reducible (refine Calls.mono (HS5.out _) ?_); rintro e v0 ⟨rfl, hbk⟩
                         have iN : Hid (BSt wr v0) := iN.out.below hbk
                         clear hbk))
                  all_goals (go_wp2_with fail; go_meet; exact ⟨by simp [h1, h2], iN.out⟩)
                · have hle := fun W => run_leq_int W r (sb + ob / 32 % 32) false (decide_eq_false h2)
                  go_region_held3 (fun W => W.cell? ⟨w.heap.size, 2, none⟩ = some (.int .i64 ob)) (first | with_reducible exact iN.out.cell q3)
                    (first
                      | (go_at_call 19; with_reducible (refine Calls.mono (HS5.out _) ?_); rintro e v0 ⟨rfl, hbk⟩
                         have iN : Hid (BSt wr v0) := iN.out.below hbk
                         clear hbk))
                  all_goals (go_wp2_with fail; go_meet; exact ⟨by simp [h1], iN.out⟩)
              · have hf1 := eq_false h1
                have hf2 := decide_eq_false h1
                have hmx : Tryz.prog.follows .mixedOrders = true := by kernel_rfl
                refine wp_region_any hmx ?_
                try (change wpAny _ _ _ _ _ _ _ (World.drew _))
                refine wpAny_take (i := 0) (v := .int .i64 r) rfl (by kernel_rfl) (by kernel_rfl) (by kernel_rfl) (fun _ _ _ h => h) (Or.inl ⟨by rfl, ?_⟩) ?_
                · intro W; go_simp
                refine wpAny_take (i := 1) (v := .pointer (some ⟨w.heap.size, 2, none⟩)) rfl (by kernel_rfl) (by kernel_rfl) (by kernel_rfl) (fun _ _ _ h => h) (Or.inl ⟨by rfl, ?_⟩) ?_
                · intro W; go_simp
                refine wpAny_ready (rs := [2]) (by kernel_rfl) (by simp) ?_
                refine AllReady.cons rfl (fun K hK => ?_) (fun j hj => by cases hj)
                go_simp
                refine hK _ _ ?_
                clear hK K
                refine wpAny_ready (rs := [3]) (by kernel_rfl) (by simp) ?_
                refine AllReady.cons rfl (fun K hK => ?_) (fun j hj => by cases hj)
                go_simp
                with_reducible (refine Calls.mono (HS5.out _) ?_)
                rintro e v0 ⟨rfl, hbk⟩
                have iN : Hid (BSt wr v0) := iN.out.below hbk
                clear hbk
                refine hK _ _ ?_
                clear hK K
                refine wpAny_take (i := 4) (v := .int .i64 (sb - 1)) rfl (by kernel_rfl) (by kernel_rfl) (by kernel_rfl) (fun _ _ _ h => h) (Or.inl ⟨by rfl, ?_⟩) ?_
                · intro W; go_simp
                refine wpAny_take (i := 5) (v := .bool false) rfl (by kernel_rfl) (by kernel_rfl) (by kernel_rfl) (fun _ _ _ h => h) (Or.inl ⟨by rfl, ?_⟩) ?_
                · intro W; go_simp
                refine wpAny_take (i := 6) (v := .bool false) rfl (by kernel_rfl) (by kernel_rfl) (by kernel_rfl) (fun _ _ _ h => h) (Or.inl ⟨by rfl, ?_⟩) ?_
                · intro W; go_simp
                refine wpAny_take (i := 7) (v := undef) rfl (by kernel_rfl) (by kernel_rfl) (by kernel_rfl) (fun _ _ _ h => h) (Or.inr ⟨by kernel_rfl, rfl⟩) ?_
                refine wpAny_take (i := 8) (v := undef) rfl (by kernel_rfl) (by kernel_rfl) (by kernel_rfl) (fun _ _ _ h => h) (Or.inr ⟨by kernel_rfl, rfl⟩) ?_
                refine wpAny_take (i := 9) (v := undef) rfl (by kernel_rfl) (by kernel_rfl) (by kernel_rfl) (fun _ _ _ h => h) (Or.inr ⟨by kernel_rfl, rfl⟩) ?_
                refine wpAny_take (i := 10) (v := undef) rfl (by kernel_rfl) (by kernel_rfl) (by kernel_rfl) (fun _ _ _ h => h) (Or.inr ⟨by kernel_rfl, rfl⟩) ?_
                refine wpAny_take (i := 11) (v := undef) rfl (by kernel_rfl) (by kernel_rfl) (by kernel_rfl) (fun _ _ _ h => h) (Or.inr ⟨by kernel_rfl, rfl⟩) ?_
                refine wpAny_take (i := 12) (v := undef) rfl (by kernel_rfl) (by kernel_rfl) (by kernel_rfl) (fun _ _ _ h => h) (Or.inr ⟨by kernel_rfl, rfl⟩) ?_
                refine wpAny_take (i := 13) (v := undef) rfl (by kernel_rfl) (by kernel_rfl) (by kernel_rfl) (fun _ _ _ h => h) (Or.inr ⟨by kernel_rfl, rfl⟩) ?_
                refine wpAny_take (i := 14) (v := undef) rfl (by kernel_rfl) (by kernel_rfl) (by kernel_rfl) (fun _ _ _ h => h) (Or.inr ⟨by kernel_rfl, rfl⟩) ?_
                refine wpAny_take (i := 15) (v := undef) rfl (by kernel_rfl) (by kernel_rfl) (by kernel_rfl) (fun _ _ _ h => h) (Or.inr ⟨by kernel_rfl, rfl⟩) ?_
                refine wpAny_take (i := 16) (v := undef) rfl (by kernel_rfl) (by kernel_rfl) (by kernel_rfl) (fun _ _ _ h => h) (Or.inr ⟨by kernel_rfl, rfl⟩) ?_
                refine wpAny_take (i := 17) (v := .bool false) rfl (by kernel_rfl) (by kernel_rfl) (by kernel_rfl) (fun _ _ _ h => h) (Or.inl ⟨by rfl, ?_⟩) ?_
                · intro W; go_simp
                refine wpAny_ready (rs := [18]) (by kernel_rfl) (by simp) ?_
                refine AllReady.cons rfl (fun K hK => ?_) (fun j hj => by cases hj)
                go_simp
                refine hK _ _ ?_
                clear hK K
                refine wpAny_done (by kernel_rfl) ?_ _
                go_wp2_with fail
                go_meet
                exact ⟨by simp [hf1], iN.out⟩
            case rest =>
              obtain ⟨rfl, hR⟩ := hcut
              have HX := hid (HX.out.below hR.hb)
              have HB := hid (HB.out.trans (hR.hb.mono HB.out.size))
              have HIN : Hid ((decide (sb - 1 ≤ r) && decide (r ≤ sb + ob / 32 % 32)) = true → ∃ q, q ∈ L ∧ lessT (wholeN r) (plT q.1) = false ∧ lessT (plT q.2) (wholeN r) = false) := by
                intro h
                rw [Bool.and_eq_true, decide_eq_true_eq, decide_eq_true_eq] at h
                exact HLL.out r HPK.out h.1 h.2
              have hr1 : -8 ≤ r := by have := HPK.out; omega
              have hr2 : r ≤ 8 := by have := HPK.out; omega
              generalize (decide (sb - 1 ≤ r) && decide (r ≤ sb + ob / 32 % 32)) = b0 at *
              clear hR HPK HLL q3 hci l5 HS5
              go_wp2_with fail
              go_loopw [20, 21] (fun y x wr2 => ∃ (j : Nat) (bb : Bool), j ≤ L.length ∧ x = .int .i64 (j : Int) ∧ y = .bool bb ∧ Below wc.heap.size wc wr2 ∧ (bb = true → b0 = true ∧ ∀ k, k < j → (lessT (wholeN r) (plT (L.getD k (0, 0)).1) = false ∧ lessT (plT (L.getD k (0, 0)).2) (wholeN r) = false) → False)) (fun _ x _ => L.length - (intOf x).toNat)
              case atStart => exact ⟨0, b0, Nat.zero_le _, rfl, rfl, Below.refl _ _, fun h => ⟨h, fun k hk => by omega⟩⟩
              case round =>
                obtain ⟨j, bb, hj1, rfl, rfl, hb2, hbb⟩ := hrel
                have HBB := hid hbb
                clear hbb
                cases bb
                · clear HX HBB
                  by_cases hjl : j < L.length
                  · go_wp2
                    go_roundw
                    case rel => exact ⟨i + 1, by omega, by go_num, HB.out.trans (hb2.mono HB.out.size)⟩
                    case measure => simp [intOf]; omega
                  · go_wp2
                    go_roundw
                    case rel => exact ⟨i + 1, by omega, by go_num, HB.out.trans (hb2.mono HB.out.size)⟩
                    case measure => simp [intOf]; omega
                · by_cases hjl : j < L.length
                  · obtain ⟨g4, o4, rfl, hg4, hc4⟩ := HX.out.resolve_left (by omega)
                    obtain ⟨c1, c2⟩ := hc4 j hjl
                    rw [← hb2.cell (by exact hg4)] at c1 c2
                    have hq : L.getD j (0, 0) ∈ L := by
                      rw [List.getD_eq_getElem?_getD, List.getElem?_eq_getElem hjl]
                      exact List.getElem_mem _
                    have hiv := HII.out _ hq
                    have HC : Hid (∀ W, Calls Tryz.prog 22 #[.agg #[.int .u64 ((L.getD j (0, 0)).1 : Int), .int .u64 ((L.getD j (0, 0)).2 : Int)], .int .i64 r] W fun e w' => e = .returned (.bool (!lessT (wholeN r) (plT (L.getD j (0, 0)).1) && !lessT (plT (L.getD j (0, 0)).2) (wholeN r))) ∧ Below W.heap.size W w') := fun W => holds_lawB _ _ r W hiv (by omega) (by omega) _ _ rfl rfl
                    have hstep : ∀ bn : Bool, (!lessT (wholeN r) (plT (L.getD j (0, 0)).1) && !lessT (plT (L.getD j (0, 0)).2) (wholeN r)) = !bn → (bn = true → b0 = true ∧ ∀ k, k < j + 1 → (lessT (wholeN r) (plT (L.getD k (0, 0)).1) = false ∧ lessT (plT (L.getD k (0, 0)).2) (wholeN r) = false) → False) := by
                      intro bn hbn hbt
                      subst hbt
                      obtain ⟨h1, h2⟩ := HBB.out rfl
                      refine ⟨h1, fun k hk hh => ?_⟩
                      by_cases hkj : k = j
                      · subst hkj
                        rw [hh.1, hh.2] at hbn
                        cases hbn
                      · exact h2 k (by omega) hh
                    have HST := hid hstep
                    clear hc4 hq hiv HX hstep HBB
                    generalize (!lessT (wholeN r) (plT (L.getD j (0, 0)).1) && !lessT (plT (L.getD j (0, 0)).2) (wholeN r)) = hh at *
                    generalize (L.getD j (0, 0)).1 = y1 at *
                    generalize (L.getD j (0, 0)).2 = y2 at *
                    go_wp2_with fail
                    refine Calls.mono (HC.out _) ?_
                    rintro e w8 ⟨rfl, hb8⟩
                    have hb9 : Below wc.heap.size wc w8 := hb2.trans (hb8.mono hb2.size)
                    clear HC c1 c2 hb8
                    cases hh
                    · go_wp2
                      go_roundw
                      case rel => exact ⟨j + 1, true, by omega, by go_num, rfl, hb9, HST.out true rfl⟩
                      case measure => simp [intOf]; omega
                    · go_wp2
                      go_roundw
                      case rel => exact ⟨j + 1, false, by omega, by go_num, rfl, hb9, fun h => by cases h⟩
                      case measure => simp [intOf]; omega
                  · exfalso
                    obtain ⟨h1, h2⟩ := HBB.out rfl
                    obtain ⟨q, hq, h3, h4⟩ := HIN.out h1
                    obtain ⟨k, hk, rfl⟩ := List.mem_iff_getElem.1 hq
                    refine h2 k (by omega) ?_
                    rw [List.getD_eq_getElem?_getD, List.getElem?_eq_getElem hk]
                    exact ⟨h3, h4⟩
          · go_wp2
            go_ret
            exact ⟨rfl, m2.out.hb.trans (hb.mono m2.out.hb.size)⟩
end Go.Proofs.YtonhpkigoplmaaaGreatDoor
namespace Go.Proofs.YtonhpkigoplmaaaGreatDoor
open Go.RowKit

theorem finds_any (A : Nat → Addr) (k oa ob : Int) (s : ByteArray) (xl xh yl yh : Nat) (po : Option Addr) (n pc : Nat) (w : World) (hS : Sents A w) :
    Calls Tryz.prog 16 #[.agg #[Value.int IntKind.i64 k, Value.int IntKind.i64 oa, Value.int IntKind.i64 ob, Value.string s, Value.int IntKind.u64 (xl : Int), Value.int IntKind.u64 (xh : Int), Value.int IntKind.u64 (yl : Int), Value.int IntKind.u64 (yh : Int), Value.slice po n pc]] w fun e w' => e = .returned (.bool true) ∧ Below w.heap.size w w' :=
  finds_walk A k oa ob s xl xh yl yh po n pc (ob % 32 - 16) w hS (fun W => small5_any ob W) (by omega) (by omega)

set_option maxHeartbeats 1000000 in
set_option maxRecDepth 20000 in
theorem findsAll_any (A : Nat → Addr) (z : Script) (ao : Option Addr) (n c : Nat) (w : World) (hn : n ≤ 1466015503701) (hS : Sents A w)
    (hz : n = 0 ∨ ∃ g off, ao = some ⟨g, off, none⟩ ∧ g < w.heap.size ∧ z.at w g off n) :
    Calls Tryz.prog 10 #[.slice ao n c] w fun e w' => e = .returned (.bool true) ∧ Below w.heap.size w w' := by
  have HZ : Hid (n = 0 ∨ ∃ g off, ao = some ⟨g, off, none⟩ ∧ g < w.heap.size ∧ z.at w g off n) := hz
  have HS : Hid (Sents A w) := hS
  clear hz hS
  go_enter Tryz.func10, Tryz.ntmps10
  go_wp2
  have hM0 : (n : Int) ≤ 1152921504606846976 := by omega
  generalize (1152921504606846976 : Int) = M at *
  go_loopw [3] (fun v wr => ∃ i : Nat, i ≤ n ∧ v = .int .i64 (i : Int) ∧ Below w.heap.size w wr) (fun v _ => n - (intOf v).toNat)
  case atStart => exact ⟨0, Nat.zero_le _, rfl, Below.refl _ _⟩
  case round =>
    obtain ⟨i, hi1, rfl, hbr⟩ := hrel
    by_cases hin : i < n
    · have hiM : (i : Int) < M := by omega
      obtain ⟨g, off, rfl, hg, hat⟩ := HZ.out.resolve_left (by omega)
      obtain ⟨c0, c1, c2, c3, c4, c5, c6, c7, c8⟩ := hat i hin
      rw [← hbr.cell (by exact hg)] at c0 c1 c2 c3 c4 c5 c6 c7 c8
      have HPi : Hid (Calls Tryz.prog 16 #[.agg #[.int .i64 (z.k i), .int .i64 (z.a i), .int .i64 (z.b i), .string (z.s i), .int .u64 (z.xl i : Int), .int .u64 (z.xh i : Int), .int .u64 (z.yl i : Int), .int .u64 (z.yh i : Int), .slice (z.po i) (z.pl i) (z.pc i)]] wr fun e W' => e = .returned (.bool true) ∧ Below wr.heap.size wr W') := finds_any A _ _ _ _ _ _ _ _ _ _ _ wr (HS.out.below hbr (Nat.le_refl _))
      have Hbr : Hid (Below w.heap.size w wr) := hbr
      clear hat HZ HS hg hbr
      generalize z.k i = zk at *
      generalize z.a i = za at *
      generalize z.b i = zb at *
      generalize z.s i = zs at *
      generalize z.xl i = zxl at *
      generalize z.xh i = zxh at *
      generalize z.yl i = zyl at *
      generalize z.yh i = zyh at *
      generalize z.po i = zpo at *
      generalize z.pl i = zpl at *
      generalize z.pc i = zpc at *
      go_wp2_with fail
      refine Calls.mono HPi.out ?_
      rintro e w1 ⟨rfl, hb1⟩
      have Hb1 : Hid (Below w.heap.size w w1) := Hbr.out.trans (hb1.mono Hbr.out.size)
      clear hb1 HPi Hbr c0 c1 c2 c3 c4 c5 c6 c7 c8
      go_wp2
      go_roundw
      case rel => exact ⟨i + 1, by omega, by go_num, Hb1.out⟩
      case measure => simp [intOf]; omega
    · clear HZ HS
      go_wp2
      go_ret
      exact ⟨rfl, hbr⟩
end Go.Proofs.YtonhpkigoplmaaaGreatDoor
namespace Go.Proofs.YtonhpkigoplmaaaGreatDoor
open Go.RowKit

theorem sents_vars {P : Program} {nm : String} {W : World} {ti tp te ts : TypeId} {ms : Array (String × TypeId)} {f : Field}
    (hi : P.underlying ti = some (.interface ms)) (hrow : ∀ u, P.typeName? 3 u = some nm → u = tp)
    (hp : P.underlying tp = some (.pointer te)) (he : P.underlying te = some (.struct #[f])) (hft : f.type = ts) (hfo : f.offset = 0) (hs : P.underlying ts = some .string) (hc : P.cellsOf te = 1) (hcs : P.cellsOf ts = 1) :
    ∀ (l : List (String × List UInt8)) (gs : Nat → Nat) (ps : List MemPlace), DataW.LaidVars P W (l.map fun x => (x.1, .iface nm (.ptr (.agg [.lit (.string x.2)])))) ps →
      (∀ k (h : k < l.length), P.globalNamed l[k].1 = some (gs k) ∧ (P.globals[gs k]?).map (·.type) = some ti) →
      (∀ b off, MemPlace.cell b off ∈ ps → (∃ c t, W.heap[b]? = some (.cells c t (0, 0))) ∧ ∀ u v, W.cell? ⟨b, off, none⟩ = some (.iface u v) → Value.okWide P W .any 0 u v) →
      ∃ A : Nat → Addr, (∀ k, k < l.length → W.cell? ⟨gs k, 0, none⟩ = some (.iface tp (.pointer (some (A k)))) ∧ MemPlace.cell (A k).block (A k).off ∈ ps) ∧ (ps.Nodup → ∀ j k, j < k → k < l.length → A j ≠ A k)
  | [], gs, ps, h, hg, hr => ⟨fun _ => ⟨0, 0, none⟩, fun k hk => absurd hk (by simp), fun _ j k _ hk => absurd hk (by simp)⟩
  | x :: l, gs, ps, h, hg, hr => by
    obtain ⟨g, t, cs, fuel, p, q, hgn, ht, hv, hd, hq, rfl⟩ := h
    obtain ⟨hg1, ht1⟩ := hg 0 (by simp)
    obtain rfl := Option.some.inj (hg1.symm.trans hgn)
    obtain rfl := Option.some.inj (ht1.symm.trans ht)
    have ok0 : ∀ u v, cs.toList = [.iface u v] → Value.okWide P W .any 0 u v := fun u v e => by
      obtain ⟨l0⟩ := cs
      simp only at e
      subst e
      exact (hr (gs 0) 0 (by simp [MemPlace.row])).2 u v (by simpa using World.var?_cell hgn hv 0)
    obtain ⟨a, s, hcl, ha, _, _, rfl⟩ := errorString_of_trod hi hrow hp he hft hfo hs hc hcs hd ok0
    obtain ⟨A, h1, h2⟩ := sents_vars hi hrow hp he hft hfo hs hc hcs l (fun k => gs (k + 1)) q hq
      (fun k hk => by
        have := hg (k + 1) (by simpa using hk)
        simpa using this)
      (fun b off hm => hr b off (by simp [hm]))
    refine ⟨fun k => match k with | 0 => a | k + 1 => A k, fun k hk => ?_, fun hnd j k hjk hk => ?_⟩
    · match k, hk with
      | 0, _ =>
        have := World.var?_cell hgn hv 0
        rw [Array.eq_one_of_toList hcl] at this
        exact ⟨by simpa using this, by simp [MemPlace.row]⟩
      | k + 1, hk =>
        have := h1 k (by simpa using hk)
        refine ⟨this.1, ?_⟩
        · simp only [List.mem_append]; exact Or.inr this.2
    · have hq' : q.Nodup := (List.nodup_append.1 hnd).2.1
      match j, k, hjk, hk with
      | 0, k + 1, _, hk =>
        have h3 := (h1 k (by simpa using hk)).2
        show a ≠ A k
        rintro rfl
        exact (List.nodup_append.1 hnd).2.2 (MemPlace.cell (A k).block (A k).off) (by simp [MemPlace.row]) _ h3 rfl
      | j + 1, k + 1, hjk, hk => exact h2 hq' j k (by omega) (by simpa using hk)

def errs9 : List (String × List UInt8) := [("enclose/enclose.ErrFloat", [110, 111, 32, 112, 108, 97, 105, 110, 32, 102, 108, 111, 97, 116]),
  ("enclose/enclose.ErrOrder", [101, 110, 100, 115, 32, 105, 110, 32, 116, 104, 101, 32, 119, 114, 111, 110, 103, 32, 111, 114, 100, 101, 114]),
  ("enclose/enclose.ErrRange", [111, 117, 116, 32, 111, 102, 32, 114, 97, 110, 103, 101]),
  ("enclose/enclose.ErrZero", [100, 105, 118, 105, 115, 105, 111, 110, 32, 98, 121, 32, 119, 104, 97, 116, 32, 104, 111, 108, 100, 115, 32, 48]),
  ("enclose/enclose.ErrNegative", [114, 111, 111, 116, 32, 111, 102, 32, 119, 104, 97, 116, 32, 105, 115, 32, 98, 101, 108, 111, 119, 32, 48]),
  ("enclose/enclose.ErrEmpty", [110, 111, 116, 104, 105, 110, 103, 32, 105, 110, 32, 99, 111, 109, 109, 111, 110]),
  ("enclose/enclose.ErrName", [110, 111, 32, 115, 117, 99, 104, 32, 111, 112, 101, 114, 97, 116, 105, 111, 110]),
  ("enclose/enclose.ErrShape", [119, 114, 111, 110, 103, 32, 115, 104, 97, 112, 101]),
  ("enclose/enclose.ErrSure", [110, 111, 116, 32, 115, 117, 114, 101, 32, 111, 102, 32, 97, 110, 32, 97, 110, 115, 119, 101, 114])]
def sentsL : List (String × DataW Unit) := errs9.map fun x => (x.1, .iface "*errors.errorString" (.ptr (.agg [.lit (.string x.2)])))
def handleL : List (String × DataW Unit) := [("errors.errorType", .iface "internal/reflectlite.rtype" (.agg [.ptr (.lit (.string [101, 114, 114, 111, 114]))]))]

theorem k_globals : (List.range 9).all (fun k => match errs9[k]? with | some x => Tryz.prog.globalNamed x.1 == some (gix k) && (Tryz.prog.globals[gix k]?).map (·.type) == some 70 | none => false) = true := by kernel_rfl
theorem k_et : Tryz.prog.globalNamed "errors.errorType" = some 9 := by kernel_rfl
theorem k_rt : (Tryz.prog.cutTypes.find? (·.1 == "internal/reflectlite.rtype")).map (·.2) = some 216 := by kernel_rfl
theorem k_oneRow : ((List.range 263).filter fun t => Tryz.prog.rowNamed t [101, 114, 114, 111, 114]) = [70] := by kernel_rfl
theorem k_size : Tryz.prog.types.size = 263 := by kernel_rfl
theorem k_star : "*" ++ "errors.errorString" = "*errors.errorString" := by decide
theorem k_row (u : TypeId) (h : Tryz.prog.typeName? 3 u = some "*errors.errorString") : u = 229 :=
  typeName_ptr_named (nm := "errors.errorString") (by rw [k_star]; kernel_rfl) (by kernel_rfl) (by decide) u (by rw [k_star]; exact h)
theorem k_cellsES : Tryz.prog.cellsOf 251 = 1 := by kernel_rfl
theorem k_cellsS : Tryz.prog.cellsOf 9 = 1 := by kernel_rfl

theorem sents_of_laid {W : World} (hd : laidMet Tryz.prog sentsL W) (hh : handlesMet Tryz.prog handleL W) : ∃ A, Sents A W := by
  obtain ⟨ps, hv, hnd, hr⟩ := hd
  obtain ⟨A, h1, h2⟩ := sents_vars (P := Tryz.prog) Tryz.underlying70 k_row Tryz.underlying229 Tryz.underlying251 rfl rfl Tryz.underlying9 k_cellsES k_cellsS errs9 gix ps hv
    (fun k hk => by
      have := List.all_eq_true.1 k_globals k (List.mem_range.2 hk)
      rw [List.getElem?_eq_getElem hk] at this
      simpa using this) hr
  have hl : errs9.length = 9 := rfl
  rw [hl] at h1 h2
  refine ⟨A, ?_, fun k hk => by simpa using (h1 k hk).1, fun k hk => (hr _ _ (h1 k hk).2).1, h2 hnd⟩
  obtain ⟨name, u, ty, e1, e2, e3, e4, e5⟩ := hh _ (List.mem_singleton.2 rfl)
  have en : name = [101, 114, 114, 111, 114] := (Option.some.inj e1).symm
  subst en
  obtain rfl := Option.some.inj (k_rt.symm.trans e2)
  have hm : ty ∈ (List.range 263).filter fun t => Tryz.prog.rowNamed t [101, 114, 114, 111, 114] := List.mem_filter.2 ⟨List.mem_range.2 (by rw [← k_size]; exact e3), e4⟩
  rw [k_oneRow] at hm
  obtain rfl := List.mem_singleton.1 hm
  have hh : typeHandle Tryz.prog 70 = .pointer (some ⟨11, 70, none⟩) := by kernel_rfl
  rw [hh] at e5
  simpa using World.var?_cell k_et e5 0
end Go.Proofs.YtonhpkigoplmaaaGreatDoor
namespace Go.Proofs.YtonhpkigoplmaaaGreatDoor
open Go.ChangeShapes Go.WideShapes Go.ChangeAt Go.RowKit

theorem finds_k_own : ownKnob Tryz.prog.godebug = none := by kernel_rfl
theorem finds_k_laidOut : laidOutB Tryz.prog = true := by kernel_rfl
theorem finds_k_bytesOp : Tryz.prog.bytesOf 31 = 96 := by kernel_rfl
theorem finds_k_readable : Tryz.prog.readableRec 22 = true := by kernel_rfl

theorem finds_door_met (os : Os) (args : Array Value) : laidMetH Tryz.prog Rows.findsRow.laid ((World.doorLaid Tryz.prog 187 os).forCall (fun _ _ => 0) ⟨#[], args, []⟩).memory :=
  laidMetH_of_parts3 (fuel := 8) (laidMet_of_run' 8 (by kernel_rfl) (by kernel_rfl)) (by kernel_rfl) (by kernel_rfl)

theorem finds_laid {W : World} (h : laidMetH Tryz.prog Rows.findsRow.laid W) : ∃ A, Sents A W := by
  have h' : laidMet Tryz.prog sentsL W ∧ handlesMet Tryz.prog handleL W := h
  exact sents_of_laid h'.1 h'.2

set_option maxRecDepth 100000 in
theorem finds_lifted (os : Os) (started : os.Started) (H : Type) (enc : TypeId × Value → H) :
    ReturnsInHanded {} Tryz.checked os 10 .any (fun w args => (Rows.findsSpec.pre enc Tryz.prog Tryz.f10 [] false w args ∧ laidMetH Tryz.prog Rows.findsRow.laid w) ∧ sizedMet enc Tryz.prog Tryz.f10 (OpenSpec.ofChange Rows.findsSpec) false w args)
      (Rows.findsSpec.post enc Tryz.prog Tryz.f10 false true false false) := by
  refine returnsInHanded_of_change_and (C := Tryz.checked) (X := fun w _ => laidMetH Tryz.prog Rows.findsRow.laid w) (fun _ _ _ hh h => h.of_heap hh) finds_k_own started (by kernel_rfl) Tryz.func10
    (ChangeSpec.witness_shaped (enc := enc) (C := Tryz.checked) (os := os) (X := fun w _ => laidMetH Tryz.prog Rows.findsRow.laid w) false (World.doorLaid Tryz.prog 187 os) #[.slice none 0 0] 8 rfl (World.shaped_of_RefB (by kernel_rfl) (by kernel_rfl)) (by kernel_rfl) (by kernel_rfl) (by kernel_rfl) (finds_door_met os _)) ?_
  intro W base args ds gs before hval0 hW _ hsz0 hL _
  have hval : ∀ (j : Nat) t v, Tryz.f10.params[j]? = some t → args[j]? = some v → Value.okWide Tryz.prog W .any base t v := hval0
  have hW' := hW
  obtain ⟨p, q, hA0, hV, rfl, hfz, hnd⟩ := hW
  have hA : DataW.TrodAll enc Tryz.prog W 0 (fun _ => true) true Tryz.f10.params.toList args.toList ds p := hA0
  have hsz : (DataW.weightsEach Tryz.prog (Tryz.f10.params.toList ++ Rows.findsSpec.plain.varTypes Tryz.prog) (ds ++ gs)).all (· ≤ reachBytes) = true := hsz0
  rw [Tryz.params10] at hA hval hsz
  obtain ⟨v0, d0, hargs, rfl, h0⟩ := trodAll_one hA
  obtain ⟨rfl, rfl⟩ := trodVars_none hV
  obtain ⟨A, hS⟩ := finds_laid hL
  obtain rfl : args = #[v0] := by
    obtain ⟨l⟩ := args
    simpa using hargs
  have hlt : ∀ x ∈ p, x.block < W.heap.size := fun x hx => by simpa using hW'.lt x (by simpa using hx)
  have h0k := h0
  obtain ⟨fuel, hf⟩ := h0
  obtain ⟨z, ao, n, c, rfl, hz, -, hd⟩ := script_of hf (okWide_slice Tryz.underlying22 (hval 0 22 v0 rfl rfl))
  have hn : n ≤ 1466015503701 := by
    rcases hd with ⟨_, h⟩ | ⟨es, sp, rfl, hlen⟩
    · omega
    · have := sized_slice hsz (j := 0) (t := 22) (e := 31) rfl rfl Tryz.underlying22
      rw [finds_k_bytesOp] at this
      simp only [reachBytes] at this
      omega
  refine (findsAll_any A z ao n c W hn hS hz).mono fun e W' ⟨he, hb⟩ => ?_
  subst he
  have e1 : Rows.findsSpec.fn H ([d0] ++ []) = { results := [.lit (.bool true)], args := [d0] } := by simp [Rows.findsSpec]
  refine ⟨_, rfl, _, _, _, [], p, [], hW', ?_, ?_, ?_, hb.frame _, fun h => by cases h⟩
  · rw [e1]; exact trodAll_mk1 (shut_bool Tryz.underlying4 true)
  · rw [e1]; exact trodAll_mk1 (Below.trod finds_k_laidOut finds_k_readable (of_decide_eq_true (by kernel_rfl)) h0k hb hlt)
  · rw [e1]; rfl

theorem finds_holds : Rows.FindsSaid :=
  OpenClaim.holds_of_wide 10 Tryz.f10 rfl rfl rfl rfl rfl rfl rfl ⟨rfl, rfl, rfl, rfl, rfl⟩ rfl rfl rfl rfl rfl (by kernel_rfl) Tryz.func10 (by kernel_rfl)
    (of_decide_eq_true (by kernel_rfl)) (by unfold Func.isWrapper; rw [if_neg (of_decide_eq_false (by kernel_rfl))]; exact ⟨rfl, rfl⟩)
    (fun os started H enc _ => finds_lifted os started H enc)

theorem finds_card : Rows.FindsCardSaid :=
  Claim7.holds_tied_plain_at .later [] _ _ _ _ finds_holds (fun _ h => by cases h) (by kernel_rfl) (fun _ h => by cases h) finds_row_tie rfl ⟨rfl, rfl⟩ (by kernel_rfl) rfl
    (fun f fn hf hfn => by
      obtain rfl : f = 10 := Option.some.inj ((show Tryz.prog.funcNamed "enclose/encloselaw.Finds" = some 10 by kernel_rfl).symm.trans hf) |>.symm
      obtain rfl : fn = Tryz.f10 := (Option.some.inj (Tryz.func10.symm.trans hfn)).symm
      exact ⟨by kernel_rfl, fun j t ht => by
        rw [Tryz.params10] at ht
        have h3 : t = 22 := by
          rcases j with _ | j
          · simpa using ht.symm
          · simp at ht
        subst h3
        exact (show Tryz.prog.wantsStandIn 22 = false by kernel_rfl)⟩)
    (by kernel_rfl)
#print axioms finds_card
end Go.Proofs.YtonhpkigoplmaaaGreatDoor
