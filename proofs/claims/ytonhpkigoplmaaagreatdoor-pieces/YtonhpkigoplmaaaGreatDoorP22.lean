/-
  PieceU, PieceV, SrchA, KeepC, SrchB, SrchC, PolyE, SrchD, SrchE, SrchF.
-/
import Derived.Test.YtonhpkigoplmaaaGreatDoorP21
import Derived.Test.YtonhpkigoplmaaaGreatDoorP20
import Derived.RangeFuncNested
import Derived.RangeFuncBound
import Derived.RangeFuncCalls
import Derived.RangeFuncLeaves
import Derived.Shelf.Abstract
import Derived.WalkKit
import Derived.OwnWalkIn
import Derived.TacticsInMore
namespace Go.Proofs.YtonhpkigoplmaaaGreatDoor
open Go.RowKit Go.Extern Ieee

theorem less_sm {x y : Bool × Nat × Int} (sx : Sm x) (sy : Sm y) (W : World) (u v : Value) (hu : NumV W u x.1 x.2.1 x.2.2) (hv : NumV W v y.1 y.2.1 y.2.2) : Calls Tryz.prog 58 #[u, v] W fun e w' => e = .returned (.bool (lessT x y)) ∧ Below W.heap.size W w' := by
  have a := sx.len; have b := sy.len; have c := sx.l; have d := sx.u; have e := sy.l; have f := sy.u
  exact less_any _ _ _ _ _ _ _ _ W hu hv (by omega) (by omega) (by omega) (by omega) (by omega) (by omega)

theorem sm_plT (b : Nat) : Sm (plT b) := by
  unfold plT
  cases h : plainN b with
  | none => exact ⟨by show bl 0 ≤ 10000; rw [bl_zero2]; omega, by decide, by decide⟩
  | some x => exact (pl_of h).sm

theorem rngW_false {s : Bool} {r : Int} (h : (rngW s r).2 = false) : (rngW s r).1 = 0 := by
  unfold rngW at h ⊢
  by_cases hc : 553942754166571008 ≤ r ∧ r ≤ 8660422083433463808
  · rw [if_pos hc] at h; cases h
  · rw [if_neg hc]

theorem mid_lt {l h : Nat} (i : Iv l h) : (midT l h).1 < 18446744073709551616 := by
  obtain ⟨a, b⟩ := mid_same i
  cases hm : (midT l h).2
  · have : (midT l h).1 = 0 := by
      unfold midT at hm ⊢
      by_cases h0 : (sumT (plT l) (plT h)).2.1 = 0
      · unfold zround; rw [if_pos h0]
      · rw [zround_rung _ _ h0] at hm ⊢
        exact rngW_false hm
    rw [this]; omega
  · obtain ⟨e, f⟩ := b hm
    rw [← e]; exact f.lt

/-- What Eval gives is an interval, or 0. -/
theorem eval_iv {ps : Nat → Nat} {n : Nat} {x1 x2 : Bool × Nat × Int} (hr : rightN ps n = 0) (hp : ∀ i, i < n → ps i < 18446744073709551616) : Iv (evalN ps n x1 x2).1 (evalN ps n x1 x2).2.1 := by
  obtain ⟨h1, h2, h3⟩ := right_plain hr
  have e : evalN ps n x1 x2 = hornN ps n x1 x2 (n - 1) := by unfold evalN; rw [if_neg (by omega)]
  rw [e]
  obtain ⟨a, b⟩ := horn_iv (x1 := x1) (x2 := x2) hr hp (n - 1) (by omega)
  by_cases hc : (hornN ps n x1 x2 (n - 1)).2.2.1 = 0
  · exact a hc
  · obtain ⟨z1, z2⟩ := b hc
    rw [z1, z2]
    exact ⟨by omega, by omega, by omega, by omega, rfl, rfl, Int.le_refl _⟩

theorem pieceN_drop {ps : Nat → Nat} {n d l h : Nat} (hd : dropN ps n l h = true) : pieceN ps n d l h = [] := by
  cases d with
  | zero => exact if_pos hd
  | succ d => exact if_pos hd
theorem pieceN_leaf {ps : Nat → Nat} {n d l h : Nat} (hd : ¬ dropN ps n l h = true) (hc : d = 0 ∨ ¬ cutN l h = true) : pieceN ps n d l h = [(l, h)] := by
  cases d with
  | zero => exact if_neg hd
  | succ d => exact (if_neg hd).trans (if_neg (hc.resolve_left (by omega)))
theorem pieceN_cut {ps : Nat → Nat} {n d l h : Nat} (hd : ¬ dropN ps n l h = true) (hc : cutN l h = true) : pieceN ps n (d + 1) l h = pieceN ps n d l (midT l h).1 ++ pieceN ps n d (midT l h).1 h := by
  exact (if_neg hd).trans (if_pos hc)

theorem mid_round {l h : Nat} (i : Iv l h) (m : Nat × Bool) (hm : m = midT l h) (q : Bool × Nat × Int) (hq : q = sumT (plT l) (plT h)) (W : World) (vo : Option Addr) (vl vc : Nat) (hl : vl = (digits q.2.1).length) (hv : NatV W (.slice vo vl vc) q.2.1) : Calls Tryz.prog 115 #[.agg #[.bool q.1, .slice vo vl vc, .int .i64 (q.2.2 - 1)], .int .i64 0] W fun e w' => e = .returned (.tuple #[.int .u64 (m.1 : Int), .bool m.2]) ∧ Below W.heap.size W w' := by
  have p1 := pl_of i.p1
  have p2 := pl_of i.p2
  have sq := p1.sum p2
  rw [← hq] at sq
  have hm' : m = zround q.1 q.2.1 (q.2.2 - 1) := by rw [hm, hq]; unfold midT; rfl
  have := zround_any (.agg #[.bool q.1, .slice vo vl vc, .int .i64 (q.2.2 - 1)]) q.1 q.2.1 (q.2.2 - 1) W ⟨vo, vl, vc, rfl, hl, hv⟩ (by have := sq.b; omega) (by have := sq.l; omega) (by have := sq.u; omega)
  unfold ZRoundR at this
  rw [← hm'] at this
  exact this

theorem plain_pl (b : Nat) (hb : b < 18446744073709551616) (W : World) : Calls Tryz.prog 57 #[.int .u64 (b : Int)] W fun e w' => ∃ ro rl rc k, e = .returned (.tuple #[.agg #[.bool (plT b).1, .slice ro rl rc, .int .i64 (plT b).2.2], .bool k]) ∧ rl = (digits (plT b).2.1).length ∧ NatV w' (.slice ro rl rc) (plT b).2.1 ∧ Below W.heap.size W w' := by
  refine (plain_any b W hb).mono ?_
  rintro e w' ⟨x, rfl, ⟨ro, rl, rc, rfl, g1, g2⟩, g3⟩
  exact ⟨ro, rl, rc, _, rfl, g1, g2, g3⟩

theorem plain_round {a : Nat} {x : Bool × Nat × Int} (h1 : a < 18446744073709551616) (h2 : a ≠ 9223372036854775808) (h3 : plainN a = some x) (W : World) (u : Value) (hu : NumV W u x.1 x.2.1 x.2.2) : Calls Tryz.prog 115 #[u, .int .i64 0] W fun e w' => e = .returned (.tuple #[.int .u64 (a : Int), .bool true]) ∧ Below W.heap.size W w' := by
  have p1 := pl_of h3
  have := zround_any u _ _ _ W hu (by have := p1.sm.b; omega) (by have := p1.sm.l; omega) (by have := p1.sm.u; omega)
  unfold ZRoundR at this
  rw [zround_plain h1 h2 h3] at this
  exact this

theorem cut_less {al ah : Nat} (iA : Iv al ah) : cutN al ah = ((midT al ah).2 && (lessT (plT al) (plT (midT al ah).1) && lessT (plT (midT al ah).1) (plT ah))) := by
  obtain ⟨a, b⟩ := mid_same iA
  unfold cutN
  generalize midT al ah = m at a b ⊢
  cases hm : m.2
  · rw [Bool.false_and, Bool.false_and]
  · obtain ⟨e, f⟩ := b hm
    rw [hm, e] at a
    rw [e] at f
    have im : Iv m.1 m.1 := ⟨f.lt, f.lt, f.nz, f.nz, plT_some a, plT_some a, Int.le_refl _⟩
    rw [lessT_pos iA.low im, lessT_pos im iA]

theorem piece_step {ps : Nat → Nat} {po : Option Addr} {n pc : Nat} (hr : rightN ps n = 0) (hn : n * 8 ≤ 140737488355328) (d : Nat) (hd : d ≤ 8) (xl xh al ah : Nat) (w : World) (hw : WdV w po n ps) (h1 : xl < 18446744073709551616) (h2 : xh < 18446744073709551616) (e1 : al = (makeN xl xh).1) (e2 : ah = (makeN xl xh).2.1)
    (rec : ∀ d', d = d' + 1 → ∀ (l h : Nat) (W : World), Iv l h → WdV W po n ps → Calls Tryz.prog 82 #[.slice po n pc, .agg #[.int .u64 (l : Int), .int .u64 (h : Int)], .int .i64 (d' : Int)] W fun e w' => ∃ v, e = .returned v ∧ w'.ownsRow W.heap.size 28 2 v (pieceN ps n d' l h).length (bvs (pieceN ps n d' l h)) ∧ (pieceN ps n d' l h = [] ↔ v = .slice none 0 0) ∧ Below W.heap.size W w') :
    Calls Tryz.prog 82 #[.slice po n pc, .agg #[.int .u64 (xl : Int), .int .u64 (xh : Int)], .int .i64 (d : Int)] w fun e w' => ∃ v, e = .returned v ∧ w'.ownsRow w.heap.size 28 2 v (pieceN ps n d al ah).length (bvs (pieceN ps n d al ah)) ∧ (pieceN ps n d al ah = [] ↔ v = .slice none 0 0) ∧ Below w.heap.size w w' := by
  have iA : Iv al ah := by rw [e1, e2]; exact made_iv xl xh h1 h2
  have hM : MadeG #[.agg #[.int .u64 (xl : Int), .int .u64 (xh : Int)]] (plT al) (plT ah) := by rw [e1, e2]; exact made_gives xl xh h1 h2
  have iV := eval_iv (x1 := plT al) (x2 := plT ah) hr hw.1
  have hE := fun (W : World) (hb : Below w.heap.size w W) => refEval_any po n pc ps xl xh W (hw.below hb) hn h1 h2 al ah e1 e2 _ rfl
  have hV : MadeG #[.agg #[.int .u64 ((evalN ps n (plT al) (plT ah)).1 : Int), .int .u64 ((evalN ps n (plT al) (plT ah)).2.1 : Int)]] (plT (evalN ps n (plT al) (plT ah)).1) (plT (evalN ps n (plT al) (plT ah)).2.1) := by
    have := made_gives _ _ iV.lt1 iV.lt2
    rw [make_iv iV] at this
    exact this
  by_cases hdr : dropN ps n al ah = true
  · rw [pieceN_drop hdr]
    unfold dropN at hdr
    rw [Bool.and_eq_true, decide_eq_true_eq, Bool.not_eq_true'] at hdr
    have hE0 := hE
    rw [hdr.1] at hE0
    refine (piece_drop po n pc _ xl xh _ _ _ _ _ _ _ w hM hE0 hV hdr.2).mono ?_
    rintro e w' ⟨rfl, hb⟩
    exact ⟨_, rfl, World.ownsRow_nil _ _ _ _, by simp, hb⟩
  · have hk : (evalN ps n (plT al) (plT ah)).2.2.1 ≠ 0 ∨ holdsT (plT (evalN ps n (plT al) (plT ah)).1) (plT (evalN ps n (plT al) (plT ah)).2.1) = true := by
      by_cases hc : (evalN ps n (plT al) (plT ah)).2.2.1 = 0
      · right
        cases hh : holdsT (plT (evalN ps n (plT al) (plT ah)).1) (plT (evalN ps n (plT al) (plT ah)).2.1)
        · exfalso; apply hdr; unfold dropN; rw [hh, decide_eq_true hc]; rfl
        · rfl
      · exact .inl hc
    have p1 := pl_of iA.p1
    have p2 := pl_of iA.p2
    have sq := p1.sum p2
    have hS := sum_g p1.sm p2.sm
    have hR := mid_round iA _ rfl _ rfl
    have hP := plain_pl _ (mid_lt iA)
    have hL1 := less_sm p1.sm (sm_plT (midT al ah).1)
    have hL2 := less_sm (sm_plT (midT al ah).1) p2.sm
    have hz := fun (W : World) (v : Value) (h : IvV W v (plT (evalN ps n (plT al) (plT ah)).1) (plT (evalN ps n (plT al) (plT ah)).2.1)) => holds0_any v _ _ W h
    have hR1 := plain_round iA.lt1 iA.z1 iA.p1
    have hR2 := plain_round iA.lt2 iA.z2 iA.p2
    have hcut := cut_less iA
    by_cases hleaf : d = 0 ∨ ¬ cutN al ah = true
    · rw [pieceN_leaf hdr hleaf]
      refine (piece_leaf po n pc (d : Int) xl xh _ _ _ _ _ _ _ _ _ _ _ _ _ _ (midT al ah).1 al ah w hM hE hV hz hk hS sq.l sq.u hR hP hL1 hL2 hR1 hR2 ?_).mono ?_
      · rcases hleaf with h | h
        · left; omega
        · right
          rw [hcut] at h
          cases hm : (midT al ah).2
          · exact .inl rfl
          · cases hl : lessT (plT al) (plT (midT al ah).1)
            · exact .inr (.inl rfl)
            · cases hl2 : lessT (plT (midT al ah).1) (plT ah)
              · exact .inr (.inr rfl)
              · rw [hm, hl, hl2] at h; exact absurd rfl h
      · rintro e w' ⟨g, rfl, hg, hh, hb⟩
        exact ⟨_, rfl, ⟨rfl, .inr ⟨g, 1, _, rfl, hg, hh, Nat.le_refl _, by unfold maxLen; omega, rfl, rfl⟩⟩, by simp, hb⟩
    · have hd0 : d ≠ 0 := fun h => hleaf (.inl h)
      have hcc : cutN al ah = true := Decidable.byContradiction fun h => hleaf (.inr h)
      obtain ⟨d', rfl⟩ : ∃ d', d = d' + 1 := ⟨d - 1, by omega⟩
      rw [pieceN_cut hdr hcc]
      obtain ⟨i1, i2, _⟩ := cut_iv iA hcc
      have hcc' := hcc
      rw [hcut, Bool.and_eq_true, Bool.and_eq_true] at hcc'
      have q1 := pieceN_len ps n d' al (midT al ah).1
      have q2 := pieceN_len ps n d' (midT al ah).1 ah
      have q3 : 2 ^ d' ≤ 2 ^ 7 := Nat.pow_le_pow_right (by decide) (by omega)
      refine piece_split po n pc ((d' + 1 : Nat) : Int) xl xh _ _ _ _ _ _ _ _ _ _ _ _ _ _ (midT al ah).1 al ah w hM hE hV hz hk hS sq.l sq.u hR hP hL1 hL2 hR1 hR2 hcc' (by omega) (by omega) _ _ (by omega) ?_ ?_
      · intro W hb
        have := rec d' rfl al (midT al ah).1 W i1 (hw.below hb)
        rwa [show ((d' : Nat) : Int) = ((d' + 1 : Nat) : Int) - 1 by omega] at this
      · intro W hb
        have := rec d' rfl (midT al ah).1 ah W i2 (hw.below hb)
        rwa [show ((d' : Nat) : Int) = ((d' + 1 : Nat) : Int) - 1 by omega] at this

theorem piece_any {ps : Nat → Nat} {po : Option Addr} {n pc : Nat} (hr : rightN ps n = 0) (hn : n * 8 ≤ 140737488355328) : ∀ (d : Nat), d ≤ 8 → ∀ (xl xh al ah : Nat) (w : World), WdV w po n ps → xl < 18446744073709551616 → xh < 18446744073709551616 → al = (makeN xl xh).1 → ah = (makeN xl xh).2.1 →
    Calls Tryz.prog 82 #[.slice po n pc, .agg #[.int .u64 (xl : Int), .int .u64 (xh : Int)], .int .i64 (d : Int)] w fun e w' => ∃ v, e = .returned v ∧ w'.ownsRow w.heap.size 28 2 v (pieceN ps n d al ah).length (bvs (pieceN ps n d al ah)) ∧ (pieceN ps n d al ah = [] ↔ v = .slice none 0 0) ∧ Below w.heap.size w w' := by
  intro d
  induction d with
  | zero =>
    intro hd xl xh al ah w hw h1 h2 e1 e2
    exact piece_step hr hn 0 hd xl xh al ah w hw h1 h2 e1 e2 (fun d' h => by omega)
  | succ d ih =>
    intro hd xl xh al ah w hw h1 h2 e1 e2
    refine piece_step hr hn (d + 1) hd xl xh al ah w hw h1 h2 e1 e2 (fun d' h l u W i hW => ?_)
    obtain rfl : d = d' := by omega
    exact ih (by omega) l u l u W hW i.lt1 i.lt2 (by rw [make_iv i]) (by rw [make_iv i])
end Go.Proofs.YtonhpkigoplmaaaGreatDoor
namespace Go.Proofs.YtonhpkigoplmaaaGreatDoor
open Go.RowKit


/-- What Roots answers: its error. -/
def rootsE (ps : Nat → Nat) (n : Nat) (d : Int) : Nat :=
  if rightN ps n ≠ 0 then rightN ps n else if d < 0 ∨ 8 < d then 8 else 0
/-- What Roots answers: its pieces. -/
def rootsL (ps : Nat → Nat) (n : Nat) (d : Int) (l h : Nat) : List (Nat × Nat) :=
  if rootsE ps n d = 0 then pieceN ps n d.toNat l h else []

theorem refRoots_right (po : Option Addr) (n pc k : Nat) (d : Int) (xl xh : Nat) (w : World) (hk : k ≠ 0)
    (hR : ∀ W, Below w.heap.size w W → Calls Tryz.prog 80 #[.slice po n pc] W fun e w' => e = .returned (.int .i64 (k : Int)) ∧ Below W.heap.size W w') :
    Calls Tryz.prog 37 #[.slice po n pc, .agg #[.int .u64 (xl : Int), .int .u64 (xh : Int)], .int .i64 d] w fun e w' => e = .returned (.tuple #[.slice none 0 0, .int .i64 (k : Int)]) ∧ Below w.heap.size w w' := by
  have HR := hid hR
  clear hR
  go_enter Tryz.func37, Tryz.ntmps37
  go_wp2_with fail
  have hW : Below w.heap.size w (w.alloc (Obj.cells #[.int .u64 (xl : Int), .int .u64 (xh : Int)] 28)) := (Below.refl _ _).alloc (Nat.le_refl _) _
  generalize (w.alloc (Obj.cells #[.int .u64 (xl : Int), .int .u64 (xh : Int)] 28)) = W1 at *
  refine Calls.mono (HR.out _ hW) ?_
  rintro e w0 ⟨rfl, hb0⟩
  have HB : Below w.heap.size w w0 := hW.trans (hb0.mono hW.size)
  clear hW hb0 HR
  have hk' : (k : Int) ≠ 0 := by omega
  go_wp2_with fail
  refine bodyPost_ret (v := .tuple #[.slice none 0 0, .int .i64 (k : Int)]) (by simp [results, Tryz.results37, go_sem]) rfl ?_
  exact ⟨rfl, HB⟩

theorem refRoots_shape (po : Option Addr) (n pc : Nat) (d : Int) (xl xh : Nat) (w : World) (hd : d < 0 ∨ 8 < d)
    (hR : ∀ W, Below w.heap.size w W → Calls Tryz.prog 80 #[.slice po n pc] W fun e w' => e = .returned (.int .i64 0) ∧ Below W.heap.size W w') :
    Calls Tryz.prog 37 #[.slice po n pc, .agg #[.int .u64 (xl : Int), .int .u64 (xh : Int)], .int .i64 d] w fun e w' => e = .returned (.tuple #[.slice none 0 0, .int .i64 8]) ∧ Below w.heap.size w w' := by
  have HR := hid hR
  clear hR
  go_enter Tryz.func37, Tryz.ntmps37
  go_wp2_with fail
  have hW : Below w.heap.size w (w.alloc (Obj.cells #[.int .u64 (xl : Int), .int .u64 (xh : Int)] 28)) := (Below.refl _ _).alloc (Nat.le_refl _) _
  generalize (w.alloc (Obj.cells #[.int .u64 (xl : Int), .int .u64 (xh : Int)] 28)) = W1 at *
  refine Calls.mono (HR.out _ hW) ?_
  rintro e w0 ⟨rfl, hb0⟩
  have HB : Below w.heap.size w w0 := hW.trans (hb0.mono hW.size)
  clear hW hb0 HR
  by_cases h0 : d < 0
  · clear hd
    go_wp2_with fail
    refine bodyPost_ret (v := .tuple #[.slice none 0 0, .int .i64 8]) (by simp [results, Tryz.results37, go_sem]) rfl ?_
    exact ⟨rfl, HB⟩
  · have h8 : 8 < d := hd.resolve_left h0
    clear hd
    go_wp2_with fail
    refine bodyPost_ret (v := .tuple #[.slice none 0 0, .int .i64 8]) (by simp [results, Tryz.results37, go_sem]) rfl ?_
    exact ⟨rfl, HB⟩

theorem refRoots_good (po : Option Addr) (n pc : Nat) (d : Int) (xl xh : Nat) (w : World) (h0 : ¬ d < 0) (h8 : ¬ 8 < d)
    (hR : ∀ W, Below w.heap.size w W → Calls Tryz.prog 80 #[.slice po n pc] W fun e w' => e = .returned (.int .i64 0) ∧ Below W.heap.size W w')
    (P : World → Value → World → Prop)
    (hP : ∀ W, Below w.heap.size w W → Calls Tryz.prog 82 #[.slice po n pc, .agg #[.int .u64 (xl : Int), .int .u64 (xh : Int)], .int .i64 d] W fun e w' => ∃ v, e = .returned v ∧ P W v w' ∧ Below W.heap.size W w') :
    Calls Tryz.prog 37 #[.slice po n pc, .agg #[.int .u64 (xl : Int), .int .u64 (xh : Int)], .int .i64 d] w fun e w' => ∃ W v, e = .returned (.tuple #[v, .int .i64 0]) ∧ P W v w' ∧ Below w.heap.size w w' ∧ w.heap.size ≤ W.heap.size := by
  have HR := hid hR
  have HP := hid hP
  clear hR hP
  go_enter Tryz.func37, Tryz.ntmps37
  go_wp2_with fail
  have B4 := blk_new w (Obj.cells #[.int .u64 (xl : Int), .int .u64 (xh : Int)] 28)
  have hW : Below w.heap.size w (w.alloc (Obj.cells #[.int .u64 (xl : Int), .int .u64 (xh : Int)] 28)) := (Below.refl _ _).alloc (Nat.le_refl _) _
  generalize (w.alloc (Obj.cells #[.int .u64 (xl : Int), .int .u64 (xh : Int)] 28)) = W1 at *
  refine Calls.mono (HR.out _ hW) ?_
  rintro e w0 ⟨rfl, hb0⟩
  have HB : Hid (Below w.heap.size w w0) := hW.trans (hb0.mono hW.size)
  obtain ⟨x0, x1, -, -⟩ := blk2 (blk_below B4 hb0)
  have lx := lt_of_row (blk_below B4 hb0)
  clear B4 hW hb0 HR
  go_wp2_with fail
  refine Calls.mono (HP.out _ HB.out) ?_
  rintro e w1 ⟨v, rfl, hp, hb1⟩
  have hF : Below w.heap.size w w1 := HB.out.trans (hb1.mono HB.out.size)
  have hs := HB.out.size
  clear x0 x1 lx HP hb1
  go_wp2_with fail
  refine bodyPost_ret (v := .tuple #[v, .int .i64 0]) (by simp [results, Tryz.results37, go_sem]) rfl ?_
  exact ⟨w0, v, rfl, hp, hF, hs⟩

theorem refRoots_any (po : Option Addr) (n pc : Nat) (ps : Nat → Nat) (d : Int) (xl xh al ah : Nat) (w : World) (h : WdV w po n ps) (hn : n * 8 ≤ 140737488355328) (h1 : xl < 18446744073709551616) (h2 : xh < 18446744073709551616) (e1 : al = (makeN xl xh).1) (e2 : ah = (makeN xl xh).2.1) (r : List (Nat × Nat)) (hr : r = rootsL ps n d al ah) :
    Calls Tryz.prog 37 #[.slice po n pc, .agg #[.int .u64 (xl : Int), .int .u64 (xh : Int)], .int .i64 d] w fun e w' => ∃ v, e = .returned (.tuple #[v, .int .i64 (rootsE ps n d : Int)]) ∧ w'.ownsRow w.heap.size 28 2 v r.length (bvs r) ∧ (r = [] ↔ v = .slice none 0 0) ∧ Below w.heap.size w w' := by
  have hR : ∀ W, Below w.heap.size w W → Calls Tryz.prog 80 #[.slice po n pc] W fun e w' => e = .returned (.int .i64 (rightN ps n : Int)) ∧ Below W.heap.size W w' := fun W hb => right_any po n pc ps W (h.below hb) hn
  unfold rootsL at hr
  by_cases h0 : rightN ps n ≠ 0
  · have he : rootsE ps n d = rightN ps n := by unfold rootsE; rw [if_pos h0]
    rw [he, if_neg h0] at hr
    subst hr
    rw [he]
    refine (refRoots_right po n pc _ d xl xh w h0 hR).mono ?_
    rintro e w' ⟨rfl, hb⟩
    exact ⟨_, rfl, World.ownsRow_nil _ _ _ _, by simp, hb⟩
  · have h0' : rightN ps n = 0 := Decidable.not_not.1 h0
    rw [h0'] at hR
    by_cases hd : d < 0 ∨ 8 < d
    · have he : rootsE ps n d = 8 := by unfold rootsE; rw [if_neg h0, if_pos hd]
      rw [he, if_neg (by decide)] at hr
      subst hr
      rw [he]
      refine (refRoots_shape po n pc d xl xh w hd hR).mono ?_
      rintro e w' ⟨rfl, hb⟩
      exact ⟨_, rfl, World.ownsRow_nil _ _ _ _, by simp, hb⟩
    · have he : rootsE ps n d = 0 := by unfold rootsE; rw [if_neg h0, if_neg hd]
      rw [he, if_pos rfl] at hr
      rw [he]
      obtain ⟨k, rfl⟩ : ∃ k : Nat, d = (k : Int) := ⟨d.toNat, by omega⟩
      rw [Int.toNat_natCast] at hr
      subst hr
      refine (refRoots_good po n pc (k : Int) xl xh w (by omega) (by omega) hR (fun W v w' => w'.ownsRow W.heap.size 28 2 v (pieceN ps n k al ah).length (bvs (pieceN ps n k al ah)) ∧ (pieceN ps n k al ah = [] ↔ v = .slice none 0 0)) (fun W hb => ?_)).mono ?_
      · refine (piece_any h0' hn k (by omega) xl xh al ah W (h.below hb) h1 h2 e1 e2).mono ?_
        rintro e w' ⟨v, a, b, c, g⟩
        exact ⟨v, a, ⟨b, c⟩, g⟩
      · rintro e w' ⟨W, v, rfl, ⟨a, b⟩, hb, hs⟩
        exact ⟨v, rfl, ownsRow_mono a (Below.refl _ _) hs, b, hb⟩
end Go.Proofs.YtonhpkigoplmaaaGreatDoor
namespace Go.Proofs.YtonhpkigoplmaaaGreatDoor
open Go.RowKit
attribute [local go_sem] run_store_float

set_option maxHeartbeats 4000000 in
set_option maxRecDepth 100000 in
theorem search_drop (po : Option Addr) (n pc : Nat) (dep : Int) (xl xh v1 v2 : Nat) (y : Value) (w : World)
    (hH : ∀ W, Below w.heap.size w W → Calls Tryz.prog 134 #[.slice po n pc, .agg #[.float .f64 xl, .float .f64 xh]] W fun e w' => e = .returned (.tuple #[.agg #[.float .f64 v1, .float .f64 v2], .nilIface]) ∧ Below W.heap.size W w')
    (hz : ∀ W, Calls Tryz.prog 93 #[.agg #[.float .f64 v1, .float .f64 v2]] W fun e w' => e = .returned (.bool false) ∧ Below W.heap.size W w') :
    Calls Tryz.prog 105 #[.slice po n pc, .agg #[.float .f64 xl, .float .f64 xh], .int .i64 dep, y] w fun e w' => e = .returned (.bool true) ∧ Below w.heap.size w w' := by
  have HH := hid hH
  have HZ := hid hz
  clear hH hz
  go_enter Tryz.func105, Tryz.ntmps105
  go_wp2_with fail
  have B4 := blk_new w (Obj.cells #[.float .f64 xl, .float .f64 xh] 67)
  have hW : Below w.heap.size w (w.alloc (Obj.cells #[.float .f64 xl, .float .f64 xh] 67)) := (Below.refl _ _).alloc (Nat.le_refl _) _
  generalize (w.alloc (Obj.cells #[.float .f64 xl, .float .f64 xh] 67)) = W1 at *
  refine Calls.mono (HH.out _ hW) ?_
  rintro e w1 ⟨rfl, hb1⟩
  have HB : Hid (Below w.heap.size w w1) := hW.trans (hb1.mono hW.size)
  clear B4 hW hb1 HH
  have HW2 : Hid (Below w.heap.size w (w1.alloc (Obj.cells #[.float .f64 v1, .float .f64 v2] 67))) := HB.out.alloc HB.out.size _
  clear HB
  go_wp2_with fail
  refine Calls.mono (HZ.out _) ?_
  rintro e w2 ⟨rfl, hb2⟩
  have hF : Below w.heap.size w w2 := HW2.out.trans (hb2.mono HW2.out.size)
  clear HW2 HZ hb2
  go_wp2_with fail
  go_ret
  exact ⟨rfl, hF⟩
end Go.Proofs.YtonhpkigoplmaaaGreatDoor
namespace Go.Proofs.YtonhpkigoplmaaaGreatDoor
open Go.RowKit

/-- Every block of cells, but of plain's boxes and lists of boxes, lies as it lay. -/
structure KeepC (W W' : World) : Prop where
  size : W.heap.size ≤ W'.heap.size
  os : W'.os = W.os
  tape : W'.tape = W.tape
  output : W'.output = W.output
  blk : ∀ (b : Nat) (x : Array Value) (t : TypeId) (f : Nat × Nat), W.heap[b]? = some (.cells x t f) → t ≠ 33 → t ≠ 41 → W'.heap[b]? = some (.cells x t f)

theorem KeepC.trans {A B C : World} (h : KeepC A B) (k : KeepC B C) : KeepC A C :=
  ⟨Nat.le_trans h.size k.size, k.os.trans h.os, k.tape.trans h.tape, k.output.trans h.output, fun b x t f e h1 h2 => k.blk b x t f (h.blk b x t f e h1 h2) h1 h2⟩
theorem KeepC.of_below {W W' : World} (h : Below W.heap.size W W') : KeepC W W' :=
  ⟨h.size, h.os, h.tape, h.output, fun b _ _ _ e _ _ => (h.block b (Array.getElem?_eq_some_iff.1 e).1).trans e⟩
theorem KeepC.put (W : World) (l : Nat) (o o' : Obj) (h : W.heap[l]? = some o) (hc : o.isCells = false) : KeepC W (W.putObj l o') := by
  have g := grownBy_putObj' W l o'
  refine ⟨g.size, g.os, g.tape, g.output, fun b x t f e _ _ => ?_⟩
  rw [g.block b (Array.getElem?_eq_some_iff.1 e).1 (fun hb => ?_)]
  · exact e
  · cases hb
    rw [e] at h
    cases h
    simp [Obj.isCells] at hc
end Go.Proofs.YtonhpkigoplmaaaGreatDoor
namespace Go.Proofs.YtonhpkigoplmaaaGreatDoor
open Go.RowKit
attribute [local go_sem] run_store_float

set_option maxHeartbeats 4000000 in
set_option maxRecDepth 100000 in
theorem search_split (po : Option Addr) (n pc : Nat) (dep : Int) (xl xh v1 v2 m : Nat) (y : Value) (w : World)
    (hH : ∀ W, Below w.heap.size w W → Calls Tryz.prog 134 #[.slice po n pc, .agg #[.float .f64 xl, .float .f64 xh]] W fun e w' => ∃ v, e = .returned (.tuple #[.agg #[.float .f64 v1, .float .f64 v2], v]) ∧ (v = .nilIface ∧ (∀ W, Calls Tryz.prog 93 #[.agg #[.float .f64 v1, .float .f64 v2]] W fun e w' => e = .returned (.bool true) ∧ Below W.heap.size W w') ∨ (∃ p, v = .iface 229 p) ∨ (∃ p, v = .iface 136 p)) ∧ Below W.heap.size W w')
    (hm : ∀ W, Calls Tryz.prog 152 #[.agg #[.float .f64 xl, .float .f64 xh]] W fun e w' => e = .returned (.float .f64 m) ∧ Below W.heap.size W w')
    (hp : ∀ W, Calls Tryz.prog 112 #[.float .f64 m] W fun e w' => e = .returned (.bool true) ∧ w' = W)
    (o1 : FloatKind.f64.format.order m xl = some .gt) (o2 : FloatKind.f64.format.order m xh = some .lt) (hd : 0 < dep) (hd8 : dep ≤ 8) (T1 T2 R : World → Prop)
    (h1 : ∀ W, Below w.heap.size w W → Calls Tryz.prog 105 #[.slice po n pc, .agg #[.float .f64 xl, .float .f64 m], .int .i64 (dep - 1), y] W fun e w' => e = .returned (.bool true) ∧ T1 w' ∧ KeepC W w' ∨ e = .returned (.bool false) ∧ R w')
    (h2 : ∀ W, T1 W → KeepC w W → Calls Tryz.prog 105 #[.slice po n pc, .agg #[.float .f64 m, .float .f64 xh], .int .i64 (dep - 1), y] W fun e w' => e = .returned (.bool true) ∧ T2 w' ∧ KeepC W w' ∨ e = .returned (.bool false) ∧ R w') :
    Calls Tryz.prog 105 #[.slice po n pc, .agg #[.float .f64 xl, .float .f64 xh], .int .i64 dep, y] w fun e w' => e = .returned (.bool true) ∧ T2 w' ∧ KeepC w w' ∨ e = .returned (.bool false) ∧ R w' := by
  have HH := hid hH
  have HM := hid hm
  have HP := hid hp
  have H1 := hid h1
  have H2 := hid h2
  clear hH hm hp h1 h2
  go_enter Tryz.func105, Tryz.ntmps105
  go_wp2_with fail
  have B4 := blk_new w (Obj.cells #[.float .f64 xl, .float .f64 xh] 67)
  have hW : Below w.heap.size w (w.alloc (Obj.cells #[.float .f64 xl, .float .f64 xh] 67)) := (Below.refl _ _).alloc (Nat.le_refl _) _
  generalize (w.alloc (Obj.cells #[.float .f64 xl, .float .f64 xh] 67)) = W1 at *
  refine Calls.mono (HH.out _ hW) ?_
  rintro e w1 ⟨v, rfl, hv, hb1⟩
  have HB : Hid (Below w.heap.size w (w1.alloc (Obj.cells #[.float .f64 v1, .float .f64 v2] 67))) := (hW.trans (hb1.mono hW.size)).alloc (Nat.le_trans hW.size hb1.size) _
  have HK : Hid ((w1.alloc (Obj.cells #[.float .f64 v1, .float .f64 v2] 67)).heap[w.heap.size]? = some (.cells #[.float .f64 xl, .float .f64 xh] 67 (0, 0))) := blk_old (blk_below B4 hb1) _
  obtain ⟨x0, x1, -, -⟩ := blk2 (blk_below B4 hb1)
  have lx := lt_of_row (blk_below B4 hb1)
  clear B4 hW hb1 HH
  rcases hv with ⟨rfl, hz⟩ | ⟨p, rfl⟩ | ⟨p, rfl⟩
  · have HZ := hid hz
    clear hz
    go_wp2_with fail
    clear x0 x1 lx
    generalize (w1.alloc (Obj.cells #[.float .f64 v1, .float .f64 v2] 67)) = W2 at *
    refine Calls.mono (HZ.out _) ?_
    rintro e w2 ⟨rfl, hb2⟩
    have HB2 : Hid (Below w.heap.size w w2) := HB.out.trans (hb2.mono HB.out.size)
    have HK2 : Hid (w2.heap[w.heap.size]? = some (.cells #[.float .f64 xl, .float .f64 xh] 67 (0, 0))) := blk_below HK.out hb2
    obtain ⟨y0, y1, -, -⟩ := blk2 HK2.out
    clear HB HK HZ hb2
    go_wp2_with fail
    refine Calls.mono (HM.out _) ?_
    rintro e w3 ⟨rfl, hb3⟩
    have HB3 : Hid (Below w.heap.size w w3) := HB2.out.trans (hb3.mono HB2.out.size)
    have HK3 : Hid (w3.heap[w.heap.size]? = some (.cells #[.float .f64 xl, .float .f64 xh] 67 (0, 0))) := blk_below HK2.out hb3
    obtain ⟨z0, z1, -, -⟩ := blk2 HK3.out
    clear HB2 HK2 HM hb3 y0 y1
    have hd0 : dep ≠ 0 := by omega
    go_wp2_with fail
    refine Calls.mono (HP.out _) ?_
    rintro e w4 ⟨rfl, rfl⟩
    clear HP
    go_wp2_with fail
    refine Calls.mono (H1.out _ HB3.out) ?_
    rintro e w5 (⟨rfl, ht, hk⟩ | ⟨rfl, hr⟩)
    · have HT := hid ht
      have HC : Hid (KeepC w w5) := (KeepC.of_below HB3.out).trans hk
      obtain ⟨u0, u1, -, -⟩ := blk2 (hk.blk _ _ _ _ HK3.out (by decide) (by decide))
      clear ht hk HB3 HK3 H1 z0 z1
      go_wp2_with fail
      refine Calls.mono (H2.out _ HT.out HC.out) ?_
      rintro e w6 (⟨rfl, ht2, hk2⟩ | ⟨rfl, hr⟩)
      · have hF := HC.out.trans hk2
        clear u0 u1 HT HC H2
        go_wp2_with fail
        go_ret
        exact .inl ⟨rfl, ht2, hF⟩
      · clear u0 u1 HT HC H2
        go_wp2_with fail
        go_ret
        exact .inr ⟨rfl, hr⟩
    · clear z0 z1 HB3 HK3 H1 H2
      go_wp2_with fail
      go_ret
      exact .inr ⟨rfl, hr⟩
  · have HB2 := HB
    have HK2 := HK
    clear HB HK
    go_wp2_with fail
    clear x0 x1 lx
    generalize (w1.alloc (Obj.cells #[.float .f64 v1, .float .f64 v2] 67)) = w2 at *
    obtain ⟨y0, y1, -, -⟩ := blk2 HK2.out
    refine Calls.mono (HM.out _) ?_
    rintro e w3 ⟨rfl, hb3⟩
    have HB3 : Hid (Below w.heap.size w w3) := HB2.out.trans (hb3.mono HB2.out.size)
    have HK3 : Hid (w3.heap[w.heap.size]? = some (.cells #[.float .f64 xl, .float .f64 xh] 67 (0, 0))) := blk_below HK2.out hb3
    obtain ⟨z0, z1, -, -⟩ := blk2 HK3.out
    clear HB2 HK2 HM hb3 y0 y1
    have hd0 : dep ≠ 0 := by omega
    go_wp2_with fail
    refine Calls.mono (HP.out _) ?_
    rintro e w4 ⟨rfl, rfl⟩
    clear HP
    go_wp2_with fail
    refine Calls.mono (H1.out _ HB3.out) ?_
    rintro e w5 (⟨rfl, ht, hk⟩ | ⟨rfl, hr⟩)
    · have HT := hid ht
      have HC : Hid (KeepC w w5) := (KeepC.of_below HB3.out).trans hk
      obtain ⟨u0, u1, -, -⟩ := blk2 (hk.blk _ _ _ _ HK3.out (by decide) (by decide))
      clear ht hk HB3 HK3 H1 z0 z1
      go_wp2_with fail
      refine Calls.mono (H2.out _ HT.out HC.out) ?_
      rintro e w6 (⟨rfl, ht2, hk2⟩ | ⟨rfl, hr⟩)
      · have hF := HC.out.trans hk2
        clear u0 u1 HT HC H2
        go_wp2_with fail
        go_ret
        exact .inl ⟨rfl, ht2, hF⟩
      · clear u0 u1 HT HC H2
        go_wp2_with fail
        go_ret
        exact .inr ⟨rfl, hr⟩
    · clear z0 z1 HB3 HK3 H1 H2
      go_wp2_with fail
      go_ret
      exact .inr ⟨rfl, hr⟩
  · have HB2 := HB
    have HK2 := HK
    clear HB HK
    go_wp2_with fail
    clear x0 x1 lx
    generalize (w1.alloc (Obj.cells #[.float .f64 v1, .float .f64 v2] 67)) = w2 at *
    obtain ⟨y0, y1, -, -⟩ := blk2 HK2.out
    refine Calls.mono (HM.out _) ?_
    rintro e w3 ⟨rfl, hb3⟩
    have HB3 : Hid (Below w.heap.size w w3) := HB2.out.trans (hb3.mono HB2.out.size)
    have HK3 : Hid (w3.heap[w.heap.size]? = some (.cells #[.float .f64 xl, .float .f64 xh] 67 (0, 0))) := blk_below HK2.out hb3
    obtain ⟨z0, z1, -, -⟩ := blk2 HK3.out
    clear HB2 HK2 HM hb3 y0 y1
    have hd0 : dep ≠ 0 := by omega
    go_wp2_with fail
    refine Calls.mono (HP.out _) ?_
    rintro e w4 ⟨rfl, rfl⟩
    clear HP
    go_wp2_with fail
    refine Calls.mono (H1.out _ HB3.out) ?_
    rintro e w5 (⟨rfl, ht, hk⟩ | ⟨rfl, hr⟩)
    · have HT := hid ht
      have HC : Hid (KeepC w w5) := (KeepC.of_below HB3.out).trans hk
      obtain ⟨u0, u1, -, -⟩ := blk2 (hk.blk _ _ _ _ HK3.out (by decide) (by decide))
      clear ht hk HB3 HK3 H1 z0 z1
      go_wp2_with fail
      refine Calls.mono (H2.out _ HT.out HC.out) ?_
      rintro e w6 (⟨rfl, ht2, hk2⟩ | ⟨rfl, hr⟩)
      · have hF := HC.out.trans hk2
        clear u0 u1 HT HC H2
        go_wp2_with fail
        go_ret
        exact .inl ⟨rfl, ht2, hF⟩
      · clear u0 u1 HT HC H2
        go_wp2_with fail
        go_ret
        exact .inr ⟨rfl, hr⟩
    · clear z0 z1 HB3 HK3 H1 H2
      go_wp2_with fail
      go_ret
      exact .inr ⟨rfl, hr⟩
end Go.Proofs.YtonhpkigoplmaaaGreatDoor
namespace Go.Proofs.YtonhpkigoplmaaaGreatDoor
open Go.RowKit Go.Shelf
attribute [local go_sem] run_store_float
attribute [local go_sem] Oper.semAt_some

set_option maxHeartbeats 16000000 in
set_option maxRecDepth 100000 in
theorem search_leaf (po : Option Addr) (n pc l : Nat) (dep : Int) (xl xh v1 v2 m : Nat) (P : Bool) (w : World)
    (hH : ∀ W, Below w.heap.size w W → Calls Tryz.prog 134 #[.slice po n pc, .agg #[.float .f64 xl, .float .f64 xh]] W fun e w' => ∃ v, e = .returned (.tuple #[.agg #[.float .f64 v1, .float .f64 v2], v]) ∧ (v = .nilIface ∧ (∀ W, Calls Tryz.prog 93 #[.agg #[.float .f64 v1, .float .f64 v2]] W fun e w' => e = .returned (.bool true) ∧ Below W.heap.size W w') ∨ (∃ p, v = .iface 229 p) ∨ (∃ p, v = .iface 136 p)) ∧ Below W.heap.size W w')
    (hm : ∀ W, Calls Tryz.prog 152 #[.agg #[.float .f64 xl, .float .f64 xh]] W fun e w' => e = .returned (.float .f64 m) ∧ Below W.heap.size W w')
    (hp : ∀ W, Calls Tryz.prog 112 #[.float .f64 m] W fun e w' => e = .returned (.bool P) ∧ w' = W)
    (hL : dep = 0 ∨ (dep ≠ 0 ∧ P = false) ∨ (dep ≠ 0 ∧ P = true ∧ FloatKind.f64.format.order m xl = some .lt) ∨ (dep ≠ 0 ∧ P = true ∧ FloatKind.f64.format.order m xl = some .eq) ∨ (dep ≠ 0 ∧ P = true ∧ FloatKind.f64.format.order m xl = some .gt ∧ FloatKind.f64.format.order m xh = some .gt) ∨ (dep ≠ 0 ∧ P = true ∧ FloatKind.f64.format.order m xl = some .gt ∧ FloatKind.f64.format.order m xh = some .eq)) (R : Ending → World → Prop)
    (hY : ∀ W, Below w.heap.size w W → YieldAt Fence.wide 2 Tryz.prog l #[.agg #[.float .f64 xl, .float .f64 xh]] W fun e w' => ∃ b, e = .returned (.bool b) ∧ R e w') :
    Calls Tryz.prog 105 #[.slice po n pc, .agg #[.float .f64 xl, .float .f64 xh], .int .i64 dep, .func (.yield l) #[] #[]] w R := by
  refine (callsIn_wide (n := 3)).1 ?_
  refine callsIn_of_wp Tryz.func105 rfl trivial ?_ rfl
  simp only [Tryz.ntmps105, List.size_toArray, List.length_cons, List.length_nil, Nat.reduceAdd, Nat.reduceSub, Array.replicate_succ, Array.replicate_zero, List.push_toArray, List.append_toArray, List.nil_append, List.cons_append]
  have HH := hid hH
  have HM := hid hm
  have HP := hid hp
  have HY := hid hY
  have HL := hid hL
  clear hH hm hY hp hL
  gi_wp2_with fail
  have B4 := blk_new w (Obj.cells #[.float .f64 xl, .float .f64 xh] 67)
  have hW : Below w.heap.size w (w.alloc (Obj.cells #[.float .f64 xl, .float .f64 xh] 67)) := (Below.refl _ _).alloc (Nat.le_refl _) _
  generalize (w.alloc (Obj.cells #[.float .f64 xl, .float .f64 xh] 67)) = W1 at *
  refine ⟨trivial, ?_⟩
  refine CallsIn.mono (callsIn_wide.2 (HH.out _ hW)) ?_
  rintro e w1 ⟨v, rfl, hv, hb1⟩
  have HB : Hid (Below w.heap.size w (w1.alloc (Obj.cells #[.float .f64 v1, .float .f64 v2] 67))) := (hW.trans (hb1.mono hW.size)).alloc (Nat.le_trans hW.size hb1.size) _
  have HK : Hid ((w1.alloc (Obj.cells #[.float .f64 v1, .float .f64 v2] 67)).heap[w.heap.size]? = some (.cells #[.float .f64 xl, .float .f64 xh] 67 (0, 0))) := blk_old (blk_below B4 hb1) _
  obtain ⟨x0, x1, -, -⟩ := blk2 (blk_below B4 hb1)
  have lx := lt_of_row (blk_below B4 hb1)
  clear B4 hW hb1 HH
  rcases hv with ⟨rfl, hz⟩ | ⟨p, rfl⟩ | ⟨p, rfl⟩
  · have HZ := hid hz
    clear hz
    gi_wp2_with fail
    clear x0 x1 lx
    generalize (w1.alloc (Obj.cells #[.float .f64 v1, .float .f64 v2] 67)) = W2 at *
    refine ⟨trivial, ?_⟩
    refine CallsIn.mono (callsIn_wide.2 (HZ.out _)) ?_
    rintro e w2 ⟨rfl, hb2⟩
    have HB2 : Hid (Below w.heap.size w w2) := HB.out.trans (hb2.mono HB.out.size)
    have HK2 : Hid (w2.heap[w.heap.size]? = some (.cells #[.float .f64 xl, .float .f64 xh] 67 (0, 0))) := blk_below HK.out hb2
    obtain ⟨y0, y1, -, -⟩ := blk2 HK2.out
    clear HB HK HZ hb2
    gi_wp2_with fail
    refine ⟨trivial, ?_⟩
    refine CallsIn.mono (callsIn_wide.2 (HM.out _)) ?_
    rintro e w3 ⟨rfl, hb3⟩
    have HB3 : Hid (Below w.heap.size w w3) := HB2.out.trans (hb3.mono HB2.out.size)
    obtain ⟨z0, z1, -, -⟩ := blk2 (blk_below HK2.out hb3)
    obtain ⟨fn, tmps, assign, body, hy, hR⟩ := HY.out _ HB3.out
    clear HB2 HK2 HM hb3 y0 y1 HY
    have hL := HL.out
    clear HL
    rcases hL with rfl | ⟨hd, rfl⟩ | ⟨hd, rfl, o1⟩ | ⟨hd, rfl, o1⟩ | ⟨hd, rfl, o1, o2⟩ | ⟨hd, rfl, o1, o2⟩
    · clear HP
      gi_wp2_with fail
      refine ⟨trivial, ?_⟩
      gi_wp2_with fail
      refine hR.mono ?_
      rintro e w5 ⟨b, rfl, hr⟩
      clear hR hy
      gi_wp2_with fail
      exact hr
    all_goals
      gi_wp2_with fail
      refine ⟨trivial, ?_⟩
      refine CallsIn.mono (callsIn_wide.2 (HP.out _)) ?_
      rintro e w4 ⟨rfl, rfl⟩
      clear HP
      gi_wp2_with fail
      refine hR.mono ?_
      rintro e w5 ⟨b, rfl, hr⟩
      clear hR hy
      gi_wp2_with fail
      exact hr
  · have HB2 := HB
    have HK2 := HK
    clear HB HK
    gi_wp2_with fail
    refine ⟨trivial, ?_⟩
    gi_wp2_with fail
    clear x0 x1 lx
    generalize (w1.alloc (Obj.cells #[.float .f64 v1, .float .f64 v2] 67)) = w2 at *
    obtain ⟨y0, y1, -, -⟩ := blk2 HK2.out
    refine ⟨trivial, ?_⟩
    refine CallsIn.mono (callsIn_wide.2 (HM.out _)) ?_
    rintro e w3 ⟨rfl, hb3⟩
    have HB3 : Hid (Below w.heap.size w w3) := HB2.out.trans (hb3.mono HB2.out.size)
    obtain ⟨z0, z1, -, -⟩ := blk2 (blk_below HK2.out hb3)
    obtain ⟨fn, tmps, assign, body, hy, hR⟩ := HY.out _ HB3.out
    clear HB2 HK2 HM hb3 y0 y1 HY
    have hL := HL.out
    clear HL
    rcases hL with rfl | ⟨hd, rfl⟩ | ⟨hd, rfl, o1⟩ | ⟨hd, rfl, o1⟩ | ⟨hd, rfl, o1, o2⟩ | ⟨hd, rfl, o1, o2⟩
    · clear HP
      gi_wp2_with fail
      refine ⟨trivial, ?_⟩
      gi_wp2_with fail
      refine hR.mono ?_
      rintro e w5 ⟨b, rfl, hr⟩
      clear hR hy
      gi_wp2_with fail
      exact hr
    all_goals
      gi_wp2_with fail
      refine ⟨trivial, ?_⟩
      refine CallsIn.mono (callsIn_wide.2 (HP.out _)) ?_
      rintro e w4 ⟨rfl, rfl⟩
      clear HP
      gi_wp2_with fail
      refine hR.mono ?_
      rintro e w5 ⟨b, rfl, hr⟩
      clear hR hy
      gi_wp2_with fail
      exact hr
  · have HB2 := HB
    have HK2 := HK
    clear HB HK
    gi_wp2_with fail
    refine ⟨trivial, ?_⟩
    gi_wp2_with fail
    clear x0 x1 lx
    generalize (w1.alloc (Obj.cells #[.float .f64 v1, .float .f64 v2] 67)) = w2 at *
    obtain ⟨y0, y1, -, -⟩ := blk2 HK2.out
    refine ⟨trivial, ?_⟩
    refine CallsIn.mono (callsIn_wide.2 (HM.out _)) ?_
    rintro e w3 ⟨rfl, hb3⟩
    have HB3 : Hid (Below w.heap.size w w3) := HB2.out.trans (hb3.mono HB2.out.size)
    obtain ⟨z0, z1, -, -⟩ := blk2 (blk_below HK2.out hb3)
    obtain ⟨fn, tmps, assign, body, hy, hR⟩ := HY.out _ HB3.out
    clear HB2 HK2 HM hb3 y0 y1 HY
    have hL := HL.out
    clear HL
    rcases hL with rfl | ⟨hd, rfl⟩ | ⟨hd, rfl, o1⟩ | ⟨hd, rfl, o1⟩ | ⟨hd, rfl, o1, o2⟩ | ⟨hd, rfl, o1, o2⟩
    · clear HP
      gi_wp2_with fail
      refine ⟨trivial, ?_⟩
      gi_wp2_with fail
      refine hR.mono ?_
      rintro e w5 ⟨b, rfl, hr⟩
      clear hR hy
      gi_wp2_with fail
      exact hr
    all_goals
      gi_wp2_with fail
      refine ⟨trivial, ?_⟩
      refine CallsIn.mono (callsIn_wide.2 (HP.out _)) ?_
      rintro e w4 ⟨rfl, rfl⟩
      clear HP
      gi_wp2_with fail
      refine hR.mono ?_
      rintro e w5 ⟨b, rfl, hr⟩
      clear hR hy
      gi_wp2_with fail
      exact hr
end Go.Proofs.YtonhpkigoplmaaaGreatDoor
namespace Go.Proofs.YtonhpkigoplmaaaGreatDoor
open Go.RowKit Go.Extern
attribute [local go_sem] run_store_float

end Go.Proofs.YtonhpkigoplmaaaGreatDoor
namespace Go.Proofs.YtonhpkigoplmaaaGreatDoor
open Go.RowKit Go.Extern Ieee

theorem holdsF_any {l h : Nat} (j : Iv l h) (W : World) : Calls Tryz.prog 93 #[.agg #[.float .f64 l, .float .f64 h]] W fun e w' => e = .returned (.bool (holdsT (plT l) (plT h))) ∧ Below W.heap.size W w' := by
  obtain ⟨o1, ho1, hl1, hg1⟩ := sgn_order j
  obtain ⟨o2, ho2, hl2, hg2⟩ := sgn_order j.high
  have hh : (o1 != .gt && o2 != .lt) = holdsT (plT l) (plT h) := by
    have x1 : (o1 != .gt) = decide (sgnI (plT l).1 (plT l).2.1 ≤ 0) := by
      by_cases h : 0 < sgnI (plT l).1 (plT l).2.1
      · rw [hg1.2 h, decide_eq_false (by omega)]; rfl
      · rw [decide_eq_true (show sgnI (plT l).1 (plT l).2.1 ≤ 0 by omega)]
        cases o1 with
        | lt => rfl
        | eq => rfl
        | gt => exact absurd (hg1.1 rfl) h
    have x2 : (o2 != .lt) = decide (0 ≤ sgnI (plT h).1 (plT h).2.1) := by
      by_cases hc : sgnI (plT h).1 (plT h).2.1 < 0
      · rw [hl2.2 hc, decide_eq_false (by omega)]; rfl
      · rw [decide_eq_true (show 0 ≤ sgnI (plT h).1 (plT h).2.1 by omega)]
        cases o2 with
        | lt => exact absurd (hl2.1 rfl) hc
        | eq => rfl
        | gt => rfl
    rw [x1, x2]
    unfold holdsT
    rfl
  have := holds_any l h o1 o2 W ho1 ho2
  rwa [hh] at this

theorem order_pos {a b : Nat} (i : Iv a a) (j : Iv b b) : ∃ o, FloatKind.f64.format.order a b = some o ∧ (o = .lt ↔ posF a < posF b) ∧ (o = .gt ↔ posF b < posF a) := by
  have ho : double.order a b = _ := order_kw i.f1 j.f1
  have h1 := kw_lt i.f1 j.f1 i.q1 j.q1
  have h2 := kw_lt j.f1 i.f1 j.q1 i.q1
  refine ⟨_, ho, ?_, ?_⟩
  · rw [← h1, Int.compare_eq_lt]
  · rw [← h2, Int.compare_eq_gt]

/-- horner of right numbers is what the document says. -/
theorem hornF_any (A : Nat → Addr) (ao : Option Addr) (n c : Nat) (ps : Nat → Nat) (xl xh : Nat) (w : World) (hS : Sents A w) (h : FlV w ao n ps) (hp : ∀ i, i < n → ps i < 18446744073709551616) (hr : rightN ps n = 0) (ix : Iv xl xh) :
    Calls Tryz.prog 134 #[.slice ao n c, .agg #[.float .f64 xl, .float .f64 xh]] w fun ev w' => OpR A w (evalN ps n (plT xl) (plT xh)).1 (evalN ps n (plT xl) (plT xh)).2.1 (evalN ps n (plT xl) (plT xh)).2.2.1 (evalN ps n (plT xl) (plT xh)).2.2.2 ev w' := by
  obtain ⟨hn1, hn9, hpl⟩ := right_plain hr
  obtain ⟨m, rfl⟩ : ∃ m, n = m + 1 := ⟨n - 1, by omega⟩
  have hk := hornK (xl := xl) (xh := xh) hr hp
  obtain ⟨r, e⟩ : ∃ r, r = evalN ps (m + 1) (plT xl) (plT xh) := ⟨_, rfl⟩
  have e2 : r = (fun t => hornN ps (m + 1) (plT xl) (plT xh) (m - t)) 0 := by rw [e]; unfold evalN; rw [if_neg (by omega)]; rfl
  rw [← e]
  clear e
  generalize (fun t => hornN ps (m + 1) (plT xl) (plT xh) (m - t)) = H at *
  subst e2
  obtain ⟨g, off, rfl, hg, hc⟩ := h.resolve_left (by omega)
  exact horner_any A g off m c ps xl xh w hS hg hc (by omega) (fun i hi W => pointF_any (ps i) W (hp i hi) (hpl i hi)) (fun i hi => iv_point (hp i hi) (hpl i hi)) ix H hk
end Go.Proofs.YtonhpkigoplmaaaGreatDoor
namespace Go.Proofs.YtonhpkigoplmaaaGreatDoor
open Go.RowKit Go.Shelf


theorem search_step (A : Nat → Addr) (lid : Nat) {ps : Nat → Nat} {po : Option Addr} {n pc : Nat} (w0 : World) (hS : Sents A w0) (hF : FlV w0 po n ps) (hp : ∀ i, i < n → ps i < 18446744073709551616) (hr : rightN ps n = 0) (J Jx : List (Nat × Nat) → World → Prop) (N : Nat)
    (hJ : ∀ pre W W', J pre W → Below W.heap.size W W' → J pre W')
    (hY : ∀ pre x W, J pre W → pre.length < N → YieldAt Fence.wide 2 Tryz.prog lid #[.agg #[.float .f64 x.1, .float .f64 x.2]] W fun e W' => (e = .returned (.bool true) ∧ J (pre ++ [x]) W' ∧ KeepC W W' ∧ Below w0.heap.size W W') ∨ (e = .returned (.bool false) ∧ Jx (pre ++ [x]) W'))
    (d : Nat) (hd : d ≤ 8) (xl xh : Nat) (i : Iv xl xh) (pre : List (Nat × Nat)) (W : World) (hW : Below w0.heap.size w0 W) (hj : J pre W) (hN : pre.length + (pieceN ps n d xl xh).length ≤ N)
    (rec : ∀ d', d = d' + 1 → ∀ (xl xh : Nat) (_ : Iv xl xh) (pre : List (Nat × Nat)) (W : World), Below w0.heap.size w0 W → J pre W → pre.length + (pieceN ps n d' xl xh).length ≤ N → Calls Tryz.prog 105 #[.slice po n pc, .agg #[.float .f64 xl, .float .f64 xh], .int .i64 (d' : Int), .func (.yield lid) #[] #[]] W fun e w' => (e = .returned (.bool true) ∧ J (pre ++ pieceN ps n d' xl xh) w' ∧ KeepC W w' ∧ Below w0.heap.size w0 w') ∨ (e = .returned (.bool false) ∧ ∃ q, q <+: pieceN ps n d' xl xh ∧ Jx (pre ++ q) w')) :
    Calls Tryz.prog 105 #[.slice po n pc, .agg #[.float .f64 xl, .float .f64 xh], .int .i64 (d : Int), .func (.yield lid) #[] #[]] W fun e w' => (e = .returned (.bool true) ∧ J (pre ++ pieceN ps n d xl xh) w' ∧ KeepC W w' ∧ Below w0.heap.size w0 w') ∨ (e = .returned (.bool false) ∧ ∃ q, q <+: pieceN ps n d xl xh ∧ Jx (pre ++ q) w') := by
  have tr : ∀ W', Below W.heap.size W W' → Below w0.heap.size w0 W' := fun W' hb => hW.trans (hb.mono hW.size)
  have iV := eval_iv (x1 := plT xl) (x2 := plT xh) hr hp
  have hO := fun (W' : World) (hb : Below W.heap.size W W') => hornF_any A po n pc ps xl xh W' (hS.below (tr W' hb) (Nat.le_refl _)) (hF.below (tr W' hb)) hp hr i
  by_cases hdr : dropN ps n xl xh = true
  · rw [pieceN_drop hdr]
    unfold dropN at hdr
    rw [Bool.and_eq_true, decide_eq_true_eq, Bool.not_eq_true'] at hdr
    refine (search_drop po n pc _ xl xh (evalN ps n (plT xl) (plT xh)).1 (evalN ps n (plT xl) (plT xh)).2.1 _ W (fun W' hb => ?_) (fun W' => ?_)).mono ?_
    · refine (hO W' hb).mono ?_
      intro e w' h
      unfold OpR at h
      obtain ⟨v, rfl, hE, hb'⟩ := h
      rw [hdr.1] at hE
      exact ⟨by rw [hE.zero], hb'⟩
    · have := holdsF_any iV W'
      rwa [hdr.2] at this
    · rintro e w' ⟨rfl, hb⟩
      exact .inl ⟨rfl, by rw [List.append_nil]; exact hJ _ _ _ hj hb, KeepC.of_below hb, tr _ hb⟩
  · have hH : ∀ W', Below W.heap.size W W' → Calls Tryz.prog 134 #[.slice po n pc, .agg #[.float .f64 xl, .float .f64 xh]] W' fun e w' => ∃ v, e = .returned (.tuple #[.agg #[.float .f64 (evalN ps n (plT xl) (plT xh)).1, .float .f64 (evalN ps n (plT xl) (plT xh)).2.1], v]) ∧ (v = .nilIface ∧ (∀ W, Calls Tryz.prog 93 #[.agg #[.float .f64 (evalN ps n (plT xl) (plT xh)).1, .float .f64 (evalN ps n (plT xl) (plT xh)).2.1]] W fun e w' => e = .returned (.bool true) ∧ Below W.heap.size W w') ∨ (∃ p, v = .iface 229 p) ∨ (∃ p, v = .iface 136 p)) ∧ Below W'.heap.size W' w' := by
      intro W' hb
      refine (hO W' hb).mono ?_
      intro e w' h
      unfold OpR at h
      obtain ⟨v, rfl, hE, hb'⟩ := h
      refine ⟨v, rfl, ?_, hb'⟩
      by_cases hc : (evalN ps n (plT xl) (plT xh)).2.2.1 = 0
      · rw [hc] at hE
        refine .inl ⟨hE.zero, fun W2 => ?_⟩
        have := holdsF_any iV W2
        cases hh : holdsT (plT (evalN ps n (plT xl) (plT xh)).1) (plT (evalN ps n (plT xl) (plT xh)).2.1)
        · exfalso; apply hdr; unfold dropN; rw [hh, decide_eq_true hc]; rfl
        · rwa [hh] at this
      · generalize (evalN ps n (plT xl) (plT xh)).2.2.1 = k at *
        generalize (evalN ps n (plT xl) (plT xh)).2.2.2 = s at *
        rcases hE with ⟨rfl, rfl, rfl⟩ | ⟨k, h, rfl, rfl, rfl⟩ | ⟨k, h, b, hh, rfl, rfl⟩
        · exact absurd rfl hc
        · exact .inr (.inl ⟨_, rfl⟩)
        · exact .inr (.inr ⟨_, rfl⟩)
    have hm := fun W' : World => middle_any i W'
    have hml : midW xl xh < 18446744073709551616 := (fd_lt _ _).1
    have hpl : ∀ W', Calls Tryz.prog 112 #[.float .f64 (midW xl xh)] W' fun e w' => e = .returned (.bool (midT xl xh).2) ∧ w' = W' := fun W' => by
      have := isPlain_any (midW xl xh) W' hml
      rwa [(mid_same i).1] at this
    by_cases hleaf : d = 0 ∨ ¬ cutN xl xh = true
    · rw [pieceN_leaf hdr hleaf] at hN ⊢
      refine search_leaf po n pc lid (d : Int) xl xh _ _ (midW xl xh) (midT xl xh).2 W hH hm hpl ?_ _ (fun W' hb => ?_)
      · by_cases h0 : d = 0
        · left; omega
        · right
          have hd0 : (d : Int) ≠ 0 := by omega
          have hc := hleaf.resolve_left h0
          cases hP : (midT xl xh).2
          · exact .inl ⟨hd0, rfl⟩
          · right
            obtain ⟨e, f⟩ := (mid_same i).2 hP
            have im : Iv (midW xl xh) (midW xl xh) := by
              have a := (mid_same i).1
              rw [hP] at a
              exact ⟨f.lt, f.lt, f.nz, f.nz, plT_some a, plT_some a, Int.le_refl _⟩
            obtain ⟨o1, a1, b1, c1⟩ := order_pos im i.low
            obtain ⟨o2, a2, b2, c2⟩ := order_pos im i.high
            cases o1 with
            | lt => exact .inl ⟨hd0, rfl, a1⟩
            | eq => exact .inr (.inl ⟨hd0, rfl, a1⟩)
            | gt =>
              cases o2 with
              | gt => exact .inr (.inr (.inl ⟨hd0, rfl, a1, a2⟩))
              | eq => exact .inr (.inr (.inr ⟨hd0, rfl, a1, a2⟩))
              | lt =>
                exfalso; apply hc
                unfold cutN
                rw [hP, ← e, decide_eq_true (c1.1 rfl), decide_eq_true (b2.1 rfl)]
                rfl
      · refine YieldAt.mono (hY pre (xl, xh) W' (hJ _ _ _ hj hb) (by simp at hN; omega)) ?_
        rintro e w' (⟨rfl, h1, h2, h3⟩ | ⟨rfl, h1⟩)
        · exact ⟨true, rfl, .inl ⟨rfl, h1, (KeepC.of_below hb).trans h2, (tr _ hb).trans h3⟩⟩
        · exact ⟨false, rfl, .inr ⟨rfl, _, List.prefix_rfl, h1⟩⟩
    · have hd0 : d ≠ 0 := fun h => hleaf (.inl h)
      have hcc : cutN xl xh = true := Decidable.byContradiction fun h => hleaf (.inr h)
      obtain ⟨d', rfl⟩ : ∃ d', d = d' + 1 := ⟨d - 1, by omega⟩
      rw [pieceN_cut hdr hcc] at hN ⊢
      obtain ⟨i1, i2, em⟩ := cut_iv i hcc
      have hc' := hcc
      unfold cutN at hc'
      rw [Bool.and_eq_true, Bool.and_eq_true, decide_eq_true_eq, decide_eq_true_eq] at hc'
      obtain ⟨c1, c2, c3⟩ := hc'
      rw [em] at hm
      rw [em, c1] at hpl
      rw [List.length_append] at hN
      obtain ⟨o1, a1, b1, g1⟩ := order_pos i1.high i.low
      obtain ⟨o2, a2, b2, g2⟩ := order_pos i1.high i.high
      rw [g1.2 c2] at a1
      rw [b2.2 c3] at a2
      refine (search_split po n pc ((d' + 1 : Nat) : Int) xl xh _ _ (midT xl xh).1 _ W hH hm hpl a1 a2 (by omega) (by omega) (fun w' => J (pre ++ pieceN ps n d' xl (midT xl xh).1) w' ∧ Below w0.heap.size w0 w') (fun w' => J (pre ++ (pieceN ps n d' xl (midT xl xh).1 ++ pieceN ps n d' (midT xl xh).1 xh)) w' ∧ Below w0.heap.size w0 w') (fun w' => ∃ q, q <+: pieceN ps n d' xl (midT xl xh).1 ++ pieceN ps n d' (midT xl xh).1 xh ∧ Jx (pre ++ q) w') (fun W' hb => ?_) (fun W' ht hk => ?_)).mono ?_
      · have := rec d' rfl xl (midT xl xh).1 i1 pre W' (tr _ hb) (hJ _ _ _ hj hb) (by omega)
        rw [show ((d' : Nat) : Int) = ((d' + 1 : Nat) : Int) - 1 by omega] at this
        refine this.mono ?_
        rintro e w' (⟨rfl, h1, h2, h3⟩ | ⟨rfl, q, h1, h2⟩)
        · exact .inl ⟨rfl, ⟨h1, h3⟩, h2⟩
        · exact .inr ⟨rfl, q, h1.trans (List.prefix_append _ _), h2⟩
      · have := rec d' rfl (midT xl xh).1 xh i2 _ W' ht.2 ht.1 (by rw [List.length_append]; omega)
        rw [show ((d' : Nat) : Int) = ((d' + 1 : Nat) : Int) - 1 by omega] at this
        refine this.mono ?_
        rintro e w' (⟨rfl, h1, h2, h3⟩ | ⟨rfl, q, h1, h2⟩)
        · exact .inl ⟨rfl, ⟨by rw [← List.append_assoc]; exact h1, h3⟩, h2⟩
        · exact .inr ⟨rfl, _ ++ q, (List.prefix_append_right_inj _).2 h1, by rw [← List.append_assoc]; exact h2⟩
      · rintro e w' (⟨rfl, ⟨h1, h3⟩, h2⟩ | ⟨rfl, h⟩)
        · exact .inl ⟨rfl, h1, h2, h3⟩
        · exact .inr ⟨rfl, h⟩

theorem search_any (A : Nat → Addr) (lid : Nat) {ps : Nat → Nat} {po : Option Addr} {n pc : Nat} (w0 : World) (hS : Sents A w0) (hF : FlV w0 po n ps) (hp : ∀ i, i < n → ps i < 18446744073709551616) (hr : rightN ps n = 0) (J Jx : List (Nat × Nat) → World → Prop) (N : Nat)
    (hJ : ∀ pre W W', J pre W → Below W.heap.size W W' → J pre W')
    (hY : ∀ pre x W, J pre W → pre.length < N → YieldAt Fence.wide 2 Tryz.prog lid #[.agg #[.float .f64 x.1, .float .f64 x.2]] W fun e W' => (e = .returned (.bool true) ∧ J (pre ++ [x]) W' ∧ KeepC W W' ∧ Below w0.heap.size W W') ∨ (e = .returned (.bool false) ∧ Jx (pre ++ [x]) W')) :
    ∀ (d : Nat), d ≤ 8 → ∀ (xl xh : Nat) (_ : Iv xl xh) (pre : List (Nat × Nat)) (W : World), Below w0.heap.size w0 W → J pre W → pre.length + (pieceN ps n d xl xh).length ≤ N → Calls Tryz.prog 105 #[.slice po n pc, .agg #[.float .f64 xl, .float .f64 xh], .int .i64 (d : Int), .func (.yield lid) #[] #[]] W fun e w' => (e = .returned (.bool true) ∧ J (pre ++ pieceN ps n d xl xh) w' ∧ KeepC W w' ∧ Below w0.heap.size w0 w') ∨ (e = .returned (.bool false) ∧ ∃ q, q <+: pieceN ps n d xl xh ∧ Jx (pre ++ q) w') := by
  intro d
  induction d with
  | zero =>
    intro hd xl xh i pre W hW hj hN
    exact search_step A lid w0 hS hF hp hr J Jx N hJ hY 0 hd xl xh i pre W hW hj hN (fun d' h => by omega)
  | succ d ih =>
    intro hd xl xh i pre W hW hj hN
    refine search_step A lid w0 hS hF hp hr J Jx N hJ hY (d + 1) hd xl xh i pre W hW hj hN (fun d' h => ?_)
    obtain rfl : d = d' := by omega
    exact ih (by omega)
end Go.Proofs.YtonhpkigoplmaaaGreatDoor
namespace Go.Proofs.YtonhpkigoplmaaaGreatDoor
open Go.RowKit Go.Shelf
attribute [local go_sem] run_store_float

theorem round_deep {m m' : Nat} {P : Program} {l : Nat} {f : FuncId} {tmps : Array Value} {assign body : Code} {w : World} {R : Ending → World → Prop}
    (h : RoundIn Fence.wide m P l f tmps assign body w R) : RoundIn Fence.wide m' P l f tmps assign body w R := ⟨h.1, fun c cs _ => h.2 c cs (fun d h => by cases h)⟩
theorem yield_deep {m : Nat} (m' : Nat) {P : Program} {l : Nat} {args : Array Value} {W : World} {R : Ending → World → Prop} (h : YieldAt Fence.wide m P l args W R) : YieldAt Fence.wide m' P l args W R := by
  obtain ⟨fn, tmps, assign, body, hy, hR⟩ := h
  exact ⟨fn, tmps, assign, body, hy, round_deep hR⟩
theorem grown_below {W W' : World} (h : Below W.heap.size W W') : W.grownBy W' none := ⟨h.os, h.tape, h.output, h.size, fun k hk _ => h.block k hk⟩

theorem equalIn_func {P : Program} (w : World) (d : Nat) (t : TypeId) {x y : Array TypeId} {z : Bool} (h : P.underlying t = some (.func x y z)) (fn : Fn) (a b : Array Value) : (Op.equalIn (d + 1) t (.func fn a b) .nilFunc).run P w = .ok false w := by
  simp [Op.equalIn, run_underlying h]
theorem equalIn_nilF {P : Program} (w : World) (d : Nat) (t : TypeId) {x y : Array TypeId} {z : Bool} (h : P.underlying t = some (.func x y z)) : (Op.equalIn (d + 1) t .nilFunc .nilFunc).run P w = .ok true w := by
  simp [Op.equalIn, run_underlying h]
theorem equal_func {P : Program} (w : World) (t : TypeId) {x y : Array TypeId} {z : Bool} (h : P.underlying t = some (.func x y z)) (fn : Fn) (a b : Array Value) : (Op.equal t (.func fn a b) .nilFunc).run P w = .ok false w := equalIn_func w 9999 t h fn a b
theorem equal_nilF {P : Program} (w : World) (t : TypeId) {x y : Array TypeId} {z : Bool} (h : P.underlying t = some (.func x y z)) : (Op.equal t .nilFunc .nilFunc).run P w = .ok true w := equalIn_nilF w 9999 t h
theorem neq_func {P : Program} (w : World) (t : TypeId) {x y : Array TypeId} {z : Bool} (h : P.underlying t = some (.func x y z)) (fn : Fn) (a b : Array Value) : (binOp .neq t (.func fn a b) .nilFunc).run P w = .ok (.bool true) w := by
  simp [binOp, equal_func w t h fn a b]
theorem eql_func {P : Program} (w : World) (t : TypeId) {x y : Array TypeId} {z : Bool} (h : P.underlying t = some (.func x y z)) (fn : Fn) (a b : Array Value) : (binOp .eql t (.func fn a b) .nilFunc).run P w = .ok (.bool false) w := by
  simp [binOp, equal_func w t h fn a b]
theorem eql_nilF {P : Program} (w : World) (t : TypeId) {x y : Array TypeId} {z : Bool} (h : P.underlying t = some (.func x y z)) : (binOp .eql t .nilFunc .nilFunc).run P w = .ok (.bool true) w := by
  simp [binOp, equal_nilF w t h]

set_option maxHeartbeats 4000000 in
set_option maxRecDepth 100000 in
theorem loop_walk (po : Option Addr) (n pc lid b1 b2 b3 xl xh : Nat) (d : Int) (W : World)
    (k1 : Boxed W b1 80 (.slice po n pc)) (k2 : W.heap[b2]? = some (.cells #[.float .f64 xl, .float .f64 xh] 67 (0, 0))) (k3 : Boxed W b3 3 (.int .i64 d)) (R : World → Prop)
    (hs : Calls Tryz.prog 105 #[.slice po n pc, .agg #[.float .f64 xl, .float .f64 xh], .int .i64 d, .func (.yield lid) #[] #[]] W fun e w' => ∃ b, e = .returned (.bool b) ∧ R w') :
    Calls Tryz.prog 104 #[.func (.yield lid) #[] #[], .pointer (some ⟨b1, 0, none⟩), .pointer (some ⟨b2, 0, none⟩), .pointer (some ⟨b3, 0, none⟩)] W fun e w' => (∃ v, e = .returned v) ∧ R w' := by
  have HS := hid hs
  clear hs
  have hyn := fun (w : World) => neq_func (P := Tryz.prog) w 149 Tryz.underlying149 (.yield lid) #[] #[]
  have c1 := k1.cell
  have c3 := k3.cell
  obtain ⟨x0, x1, -, -⟩ := blk2 k2
  clear k1 k2 k3
  go_enter Tryz.func104, Tryz.ntmps104
  go_wp2_with fail
  refine Calls.mono HS.out ?_
  rintro e w' ⟨b, rfl, hr⟩
  clear HS c1 c3 x0 x1
  go_wp2_with fail
  go_end0
  exact ⟨⟨_, rfl⟩, hr⟩

/-- What a round of plain.Roots keeps. -/
def KeepB (n0 : Nat) (W W' : World) : Prop := KeepC W W' ∧ Below n0 W W'
theorem KeepB.trans {n0 : Nat} {A B C : World} (h : KeepB n0 A B) (k : KeepB n0 B C) : KeepB n0 A C := ⟨h.1.trans k.1, h.2.trans k.2⟩
theorem KeepB.put {n0 : Nat} {w : World} (hn : n0 ≤ w.heap.size) (W : World) (l : Nat) (o o' : Obj) (hl : w.heap.size ≤ l) (h : W.heap[l]? = some o) (hc : o.isCells = false) (hw : o.isWalk = false) : KeepB n0 W (W.putObj l o') :=
  ⟨KeepC.put W l o o' h hc, belowK_b hn W l o o' hl h hc hw⟩

def encF (x : Nat × Nat) : Array Value := #[.agg #[.float .f64 x.1, .float .f64 x.2]]

/-- The loop's contract. -/
theorem loop_stops (A : Nat → Addr) {ps : Nat → Nat} {po : Option Addr} {n pc : Nat} (w0 : World) (hS : Sents A w0) (hF : FlV w0 po n ps) (hp : ∀ i, i < n → ps i < 18446744073709551616) (hr : rightN ps n = 0)
    (d : Nat) (hd : d ≤ 8) (xl xh : Nat) (i : Iv xl xh) (b1 b2 b3 m : Nat)
    (k1 : Boxed w0 b1 80 (.slice po n pc)) (k2 : w0.heap[b2]? = some (.cells #[.float .f64 xl, .float .f64 xh] 67 (0, 0))) (k3 : Boxed w0 b3 3 (.int .i64 (d : Int))) :
    SeqStopsK Fence.wide m Tryz.prog 104 #[.pointer (some ⟨b1, 0, none⟩), .pointer (some ⟨b2, 0, none⟩), .pointer (some ⟨b3, 0, none⟩)] encF (KeepB w0.heap.size) (fun ys => ys = pieceN ps n d xl xh) (fun pre => pre <+: pieceN ps n d xl xh) (pieceN ps n d xl xh).length w0 := by
  intro lid J Jx W hW hJ hJx hY h0
  refine callsIn_wide.2 ?_
  have hs := search_any A lid (pc := pc) w0 hS hF hp hr J Jx (pieceN ps n d xl xh).length (fun pre W W' hj hb => hJ pre W W' none hj (grown_below hb) (fun r e => by cases e)) (fun pre x W hj hl => by
    refine YieldAt.mono (yield_deep 2 (hY pre x W hj hl)) ?_
    rintro e w' (⟨rfl, a, b, c⟩ | h)
    · exact .inl ⟨rfl, a, b, c⟩
    · exact .inr h) d hd xl xh i [] W hW h0 (by simp)
  refine (loop_walk po n pc lid b1 b2 b3 xl xh (d : Int) W (blk_below k1 hW) (blk_below k2 hW) (blk_below k3 hW) (fun w' => (∃ xs, xs = pieceN ps n d xl xh ∧ J xs w') ∨ (∃ pre, pre <+: pieceN ps n d xl xh ∧ Jx pre w')) (hs.mono ?_)).mono ?_
  · rintro e w' (⟨rfl, a, -, -⟩ | ⟨rfl, q, a, b⟩)
    · exact ⟨true, rfl, .inl ⟨_, rfl, a⟩⟩
    · exact ⟨false, rfl, .inr ⟨q, a, b⟩⟩
  · rintro e w' h
    exact h
end Go.Proofs.YtonhpkigoplmaaaGreatDoor
