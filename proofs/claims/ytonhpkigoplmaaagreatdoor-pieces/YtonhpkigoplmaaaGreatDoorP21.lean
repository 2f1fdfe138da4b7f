/-
  PieceS, PieceT.
-/
import Derived.Test.YtonhpkigoplmaaaGreatDoorP20
namespace Go.Proofs.YtonhpkigoplmaaaGreatDoor
open Go.RowKit

set_option maxHeartbeats 8000000 in
set_option maxRecDepth 100000 in
theorem piece_leaf (po : Option Addr) (n pc : Nat) (dep : Int) (xl xh v1 v2 v3 : Nat) (vs : ByteArray) (a1 a2 c1 c2 q r : Bool × Nat × Int) (z ok l1 l2 : Bool) (m al ah : Nat) (w : World)
    (hM : MadeG #[.agg #[.int .u64 (xl : Int), .int .u64 (xh : Int)]] a1 a2)
    (hE : ∀ W, Below w.heap.size w W → Calls Tryz.prog 36 #[.slice po n pc, .agg #[.int .u64 (xl : Int), .int .u64 (xh : Int)]] W fun e w' => e = .returned (.tuple #[.agg #[.int .u64 (v1 : Int), .int .u64 (v2 : Int)], .int .i64 (v3 : Int), .string vs]) ∧ Below W.heap.size W w')
    (hV : MadeG #[.agg #[.int .u64 (v1 : Int), .int .u64 (v2 : Int)]] c1 c2)
    (hz : ∀ (W : World) (v : Value), IvV W v c1 c2 → Calls Tryz.prog 121 #[v] W fun e w' => e = .returned (.bool z) ∧ Below W.heap.size W w')
    (hk : v3 ≠ 0 ∨ z = true)
    (hS : ∀ (W : World) (ao bo : Option Addr) (la ca lb cb : Nat), la = (digits a1.2.1).length → NatV W (.slice ao la ca) a1.2.1 → lb = (digits a2.2.1).length → NatV W (.slice bo lb cb) a2.2.1 → Calls Tryz.prog 65 #[.agg #[.bool a1.1, .slice ao la ca, .int .i64 a1.2.2], .agg #[.bool a2.1, .slice bo lb cb, .int .i64 a2.2.2]] W fun ev w'' => ∃ vo vl vc, ev = .returned (.agg #[.bool q.1, .slice vo vl vc, .int .i64 q.2.2]) ∧ vl = (digits q.2.1).length ∧ NatV w'' (.slice vo vl vc) q.2.1 ∧ Below W.heap.size W w'')
    (hq1 : -10000 ≤ q.2.2) (hq2 : q.2.2 ≤ 10000)
    (hR : ∀ (W : World) (vo : Option Addr) (vl vc : Nat), vl = (digits q.2.1).length → NatV W (.slice vo vl vc) q.2.1 → Calls Tryz.prog 115 #[.agg #[.bool q.1, .slice vo vl vc, .int .i64 (q.2.2 - 1)], .int .i64 0] W fun e w' => e = .returned (.tuple #[.int .u64 (m : Int), .bool ok]) ∧ Below W.heap.size W w')
    (hP : ∀ W : World, Calls Tryz.prog 57 #[.int .u64 (m : Int)] W fun e w' => ∃ ro rl rc b, e = .returned (.tuple #[.agg #[.bool r.1, .slice ro rl rc, .int .i64 r.2.2], .bool b]) ∧ rl = (digits r.2.1).length ∧ NatV w' (.slice ro rl rc) r.2.1 ∧ Below W.heap.size W w')
    (hL1 : ∀ (W : World) (u v : Value), NumV W u a1.1 a1.2.1 a1.2.2 → NumV W v r.1 r.2.1 r.2.2 → Calls Tryz.prog 58 #[u, v] W fun e w' => e = .returned (.bool l1) ∧ Below W.heap.size W w')
    (hL2 : ∀ (W : World) (u v : Value), NumV W u r.1 r.2.1 r.2.2 → NumV W v a2.1 a2.2.1 a2.2.2 → Calls Tryz.prog 58 #[u, v] W fun e w' => e = .returned (.bool l2) ∧ Below W.heap.size W w')
    (hR1 : ∀ (W : World) (u : Value), NumV W u a1.1 a1.2.1 a1.2.2 → Calls Tryz.prog 115 #[u, .int .i64 0] W fun e w' => e = .returned (.tuple #[.int .u64 (al : Int), .bool true]) ∧ Below W.heap.size W w')
    (hR2 : ∀ (W : World) (u : Value), NumV W u a2.1 a2.2.1 a2.2.2 → Calls Tryz.prog 115 #[u, .int .i64 0] W fun e w' => e = .returned (.tuple #[.int .u64 (ah : Int), .bool true]) ∧ Below W.heap.size W w')
    (hst : dep = 0 ∨ ok = false ∨ l1 = false ∨ l2 = false) :
    Calls Tryz.prog 82 #[.slice po n pc, .agg #[.int .u64 (xl : Int), .int .u64 (xh : Int)], .int .i64 dep] w fun e w' => ∃ g, e = .returned (.slice (some ⟨g, 0, none⟩) 1 1) ∧ w.heap.size ≤ g ∧ w'.heap[g]? = some (.cells #[.int .u64 (al : Int), .int .u64 (ah : Int)] 28 (0, 0)) ∧ Below w.heap.size w w' := by
  have HM_ := hid hM
  have HE_ := hid hE
  have HV_ := hid hV
  have HZ_ := hid hz
  have HS_ := hid hS
  have HR_ := hid hR
  have HP_ := hid hP
  have HL1_ := hid hL1
  have HL2_ := hid hL2
  have HR1_ := hid hR1
  have HR2_ := hid hR2
  have HST_ := hid hst
  have HK_ : Hid (v3 ≠ 0 ∨ z = true) := hk
  have qb1 : -9223372036854775808 ≤ q.2.2 - 1 := by omega
  have qb2 : q.2.2 - 1 < 9223372036854775808 := by omega
  clear hM hE hV hz hS hR hP hL1 hL2 hR1 hR2 hst hk hq1 hq2
  go_enter Tryz.func82, Tryz.ntmps82
  go_wp2_with fail
  have B4 := blk_new w (Obj.cells #[.int .u64 (xl : Int), .int .u64 (xh : Int)] 28)
  have hW : Below w.heap.size w (w.alloc (Obj.cells #[.int .u64 (xl : Int), .int .u64 (xh : Int)] 28)) := (Below.refl _ _).alloc (Nat.le_refl _) _
  generalize (w.alloc (Obj.cells #[.int .u64 (xl : Int), .int .u64 (xh : Int)] 28)) = W1 at *
  refine Calls.mono (HM_.out _) ?_
  rintro e w1 ⟨ao, la, ca, bo, lb, cb, rfl, hla, hlb, hna, hnb, hb1⟩
  have M1 : Hid (QSt w (w1.alloc (Obj.cells #[.bool a1.1, .slice ao la ca, .int .i64 a1.2.2, .bool a2.1, .slice bo lb cb, .int .i64 a2.2.2] 98)) w1.heap.size #[.int .u64 (xl : Int), .int .u64 (xh : Int)] #[.bool a1.1, .slice ao la ca, .int .i64 a1.2.2, .bool a2.1, .slice bo lb cb, .int .i64 a2.2.2]) := ⟨blk_old (blk_below B4 hb1) _, blk_new w1 _, (hW.trans (hb1.mono hW.size)).alloc (Nat.le_trans hW.size hb1.size) _⟩
  have LA : Hid (la = _) := hla
  have LB : Hid (lb = _) := hlb
  have NA : Hid (NatV (w1.alloc (Obj.cells #[.bool a1.1, .slice ao la ca, .int .i64 a1.2.2, .bool a2.1, .slice bo lb cb, .int .i64 a2.2.2] 98)) (.slice ao la ca) _) := hna.below ((Below.refl _ _).alloc (Nat.le_refl _) _) (Nat.le_refl _)
  have NB : Hid (NatV (w1.alloc (Obj.cells #[.bool a1.1, .slice ao la ca, .int .i64 a1.2.2, .bool a2.1, .slice bo lb cb, .int .i64 a2.2.2] 98)) (.slice bo lb cb) _) := hnb.below ((Below.refl _ _).alloc (Nat.le_refl _) _) (Nat.le_refl _)
  obtain ⟨x0, x1, -, -⟩ := blk2 (blk_below B4 hb1)
  have lx := lt_of_row (blk_below B4 hb1)
  clear B4 hW hb1 hla hlb hna hnb HM_
  go_wp2_with fail
  clear x0 x1 lx
  generalize w1.heap.size = g7 at *
  generalize (w1.alloc (Obj.cells #[.bool a1.1, .slice ao la ca, .int .i64 a1.2.2, .bool a2.1, .slice bo lb cb, .int .i64 a2.2.2] 98)) = W2 at *
  refine Calls.mono (HE_.out _ M1.out.hb) ?_
  rintro e w2 ⟨rfl, hb2⟩
  have hs2 : Below W2.heap.size W2 (w2.alloc (Obj.cells #[.int .u64 (v1 : Int), .int .u64 (v2 : Int)] 28)) := hb2.alloc hb2.size _
  have M2 : Hid (QSt w (w2.alloc (Obj.cells #[.int .u64 (v1 : Int), .int .u64 (v2 : Int)] 28)) g7 #[.int .u64 (xl : Int), .int .u64 (xh : Int)] #[.bool a1.1, .slice ao la ca, .int .i64 a1.2.2, .bool a2.1, .slice bo lb cb, .int .i64 a2.2.2]) := M1.out.below hs2
  have NA : Hid (NatV (w2.alloc (Obj.cells #[.int .u64 (v1 : Int), .int .u64 (v2 : Int)] 28)) (.slice ao la ca) _) := NA.out.below hs2 (Nat.le_refl _)
  have NB : Hid (NatV (w2.alloc (Obj.cells #[.int .u64 (v1 : Int), .int .u64 (v2 : Int)] 28)) (.slice bo lb cb) _) := NB.out.below hs2 (Nat.le_refl _)
  clear hb2 hs2 M1 HE_
  go_wp2_with fail
  generalize (w2.alloc (Obj.cells #[.int .u64 (v1 : Int), .int .u64 (v2 : Int)] 28)) = W3 at *
  refine Calls.mono (HV_.out _) ?_
  rintro e w3 ⟨co, lc, cc, do_, ld, cd, rfl, hlc, hld, hnc, hnd, hb3⟩
  have hs3 : Below W3.heap.size W3 (w3.alloc (Obj.cells #[.bool c1.1, .slice co lc cc, .int .i64 c1.2.2, .bool c2.1, .slice do_ ld cd, .int .i64 c2.2.2] 98)) := hb3.alloc hb3.size _
  have M3 : Hid (QSt w (w3.alloc (Obj.cells #[.bool c1.1, .slice co lc cc, .int .i64 c1.2.2, .bool c2.1, .slice do_ ld cd, .int .i64 c2.2.2] 98)) g7 #[.int .u64 (xl : Int), .int .u64 (xh : Int)] #[.bool a1.1, .slice ao la ca, .int .i64 a1.2.2, .bool a2.1, .slice bo lb cb, .int .i64 a2.2.2]) := M2.out.below hs3
  have NA : Hid (NatV (w3.alloc (Obj.cells #[.bool c1.1, .slice co lc cc, .int .i64 c1.2.2, .bool c2.1, .slice do_ ld cd, .int .i64 c2.2.2] 98)) (.slice ao la ca) _) := NA.out.below hs3 (Nat.le_refl _)
  have NB : Hid (NatV (w3.alloc (Obj.cells #[.bool c1.1, .slice co lc cc, .int .i64 c1.2.2, .bool c2.1, .slice do_ ld cd, .int .i64 c2.2.2] 98)) (.slice bo lb cb) _) := NB.out.below hs3 (Nat.le_refl _)
  have IV : Hid (IvV (w3.alloc (Obj.cells #[.bool c1.1, .slice co lc cc, .int .i64 c1.2.2, .bool c2.1, .slice do_ ld cd, .int .i64 c2.2.2] 98)) (.agg #[.bool c1.1, .slice co lc cc, .int .i64 c1.2.2, .bool c2.1, .slice do_ ld cd, .int .i64 c2.2.2]) c1 c2) := ⟨co, lc, cc, do_, ld, cd, rfl, hlc, hld, hnc.below ((Below.refl _ _).alloc (Nat.le_refl _) _) (Nat.le_refl _), hnd.below ((Below.refl _ _).alloc (Nat.le_refl _) _) (Nat.le_refl _)⟩
  clear hb3 hs3 M2 HV_ hlc hld hnc hnd
  go_wp2_with fail
  generalize (w3.alloc (Obj.cells #[.bool c1.1, .slice co lc cc, .int .i64 c1.2.2, .bool c2.1, .slice do_ ld cd, .int .i64 c2.2.2] 98)) = W4 at *
  refine Calls.mono (HZ_.out _ _ IV.out) ?_
  rintro e w4 ⟨rfl, hb4⟩
  have M4 : Hid (QSt w w4 g7 #[.int .u64 (xl : Int), .int .u64 (xh : Int)] #[.bool a1.1, .slice ao la ca, .int .i64 a1.2.2, .bool a2.1, .slice bo lb cb, .int .i64 a2.2.2]) := M3.out.below hb4
  have NA : Hid (NatV w4 (.slice ao la ca) _) := NA.out.below hb4 (Nat.le_refl _)
  have NB : Hid (NatV w4 (.slice bo lb cb) _) := NB.out.below hb4 (Nat.le_refl _)
  obtain ⟨y0, y1, y2, y3, y4, y5, -, -, -, -, -, -⟩ := blk6 M4.out.k7
  clear hb4 M3 HZ_ IV
  have hkk : v3 ≠ 0 ∨ (v3 = 0 ∧ z = true) := by
    rcases HK_.out with h | h
    · exact .inl h
    · by_cases h0 : v3 = 0
      · exact .inr ⟨h0, h⟩
      · exact .inl h0
  clear HK_
  rcases hkk with hv | ⟨hv, hzt⟩
  · have hv' : ¬ (v3 : Int) = 0 := by omega
    clear hv
    go_wp2_with fail
    refine Calls.mono (HS_.out _ ao bo la ca lb cb LA.out NA.out LB.out NB.out) ?_
    rintro e w5 ⟨vo, vl, vc, rfl, hvl, hvn, hb5⟩
    have hs5 : Below w4.heap.size w4 (w5.alloc (Obj.cells #[.bool q.1, .slice vo vl vc, .int .i64 (q.2.2 - 1)] 92)) := hb5.alloc hb5.size _
    have M5 : Hid (QSt w (w5.alloc (Obj.cells #[.bool q.1, .slice vo vl vc, .int .i64 (q.2.2 - 1)] 92)) g7 #[.int .u64 (xl : Int), .int .u64 (xh : Int)] #[.bool a1.1, .slice ao la ca, .int .i64 a1.2.2, .bool a2.1, .slice bo lb cb, .int .i64 a2.2.2]) := M4.out.below hs5
    have NA : Hid (NatV (w5.alloc (Obj.cells #[.bool q.1, .slice vo vl vc, .int .i64 (q.2.2 - 1)] 92)) (.slice ao la ca) _) := NA.out.below hs5 (Nat.le_refl _)
    have NB : Hid (NatV (w5.alloc (Obj.cells #[.bool q.1, .slice vo vl vc, .int .i64 (q.2.2 - 1)] 92)) (.slice bo lb cb) _) := NB.out.below hs5 (Nat.le_refl _)
    have LV : Hid (vl = _) := hvl
    have NV : Hid (NatV (w5.alloc (Obj.cells #[.bool q.1, .slice vo vl vc, .int .i64 (q.2.2 - 1)] 92)) (.slice vo vl vc) _) := hvn.below ((Below.refl _ _).alloc (Nat.le_refl _) _) (Nat.le_refl _)
    clear hvl hvn hb5 hs5 M4 HS_ y0 y1 y2 y3 y4 y5
    go_wp2_with fail
    generalize (w5.alloc (Obj.cells #[.bool q.1, .slice vo vl vc, .int .i64 (q.2.2 - 1)] 92)) = W5 at *
    refine Calls.mono (HR_.out _ vo vl vc LV.out NV.out) ?_
    rintro e w6 ⟨rfl, hb6⟩
    have M6 : Hid (QSt w w6 g7 #[.int .u64 (xl : Int), .int .u64 (xh : Int)] #[.bool a1.1, .slice ao la ca, .int .i64 a1.2.2, .bool a2.1, .slice bo lb cb, .int .i64 a2.2.2]) := M5.out.below hb6
    have NA : Hid (NatV w6 (.slice ao la ca) _) := NA.out.below hb6 (Nat.le_refl _)
    have NB : Hid (NatV w6 (.slice bo lb cb) _) := NB.out.below hb6 (Nat.le_refl _)
    clear hb6 M5 HR_ NV LV
    go_wp2_with fail
    refine Calls.mono (HP_.out _) ?_
    rintro e w7 ⟨ro, rl, rc, bb, rfl, hrl, hrn, hb7⟩
    have hs7 : Below w6.heap.size w6 (w7.alloc (Obj.cells #[.bool r.1, .slice ro rl rc, .int .i64 r.2.2] 92)) := hb7.alloc hb7.size _
    have M7 : Hid (QSt w (w7.alloc (Obj.cells #[.bool r.1, .slice ro rl rc, .int .i64 r.2.2] 92)) g7 #[.int .u64 (xl : Int), .int .u64 (xh : Int)] #[.bool a1.1, .slice ao la ca, .int .i64 a1.2.2, .bool a2.1, .slice bo lb cb, .int .i64 a2.2.2]) := M6.out.below hs7
    have K16 : Hid ((w7.alloc (Obj.cells #[.bool r.1, .slice ro rl rc, .int .i64 r.2.2] 92)).heap[w7.heap.size]? = _) := blk_new w7 _
    have NA : Hid (NatV (w7.alloc (Obj.cells #[.bool r.1, .slice ro rl rc, .int .i64 r.2.2] 92)) (.slice ao la ca) _) := NA.out.below hs7 (Nat.le_refl _)
    have NB : Hid (NatV (w7.alloc (Obj.cells #[.bool r.1, .slice ro rl rc, .int .i64 r.2.2] 92)) (.slice bo lb cb) _) := NB.out.below hs7 (Nat.le_refl _)
    have LR : Hid (rl = _) := hrl
    have NR : Hid (NatV (w7.alloc (Obj.cells #[.bool r.1, .slice ro rl rc, .int .i64 r.2.2] 92)) (.slice ro rl rc) _) := hrn.below ((Below.refl _ _).alloc (Nat.le_refl _) _) (Nat.le_refl _)
    obtain ⟨y0, y1, y2, y3, y4, y5, -, -, -, -, -, -⟩ := blk6 (M6.out.below hb7).k7
    have ly := lt_of_row (M6.out.below hb7).k7
    clear hrl hrn hb7 hs7 M6 HP_
    go_wp2_with fail
    clear y0 y1 y2 y3 y4 y5 ly
    generalize hg16 : w7.heap.size = g16 at *
    generalize (w7.alloc (Obj.cells #[.bool r.1, .slice ro rl rc, .int .i64 r.2.2] 92)) = W7 at *
    refine Calls.mono (HL1_.out _ _ _ ⟨_, _, _, rfl, LA.out, NA.out⟩ ⟨_, _, _, rfl, LR.out, NR.out⟩) ?_
    rintro e w8 ⟨rfl, hb8⟩
    have M8 : Hid (QSt w w8 g7 #[.int .u64 (xl : Int), .int .u64 (xh : Int)] #[.bool a1.1, .slice ao la ca, .int .i64 a1.2.2, .bool a2.1, .slice bo lb cb, .int .i64 a2.2.2]) := M7.out.below hb8
    have NA : Hid (NatV w8 (.slice ao la ca) _) := NA.out.below hb8 (Nat.le_refl _)
    have NB : Hid (NatV w8 (.slice bo lb cb) _) := NB.out.below hb8 (Nat.le_refl _)
    have NR : Hid (NatV w8 (.slice ro rl rc) _) := NR.out.below hb8 (Nat.le_refl _)
    obtain ⟨y0, y1, y2, y3, y4, y5, -, -, -, -, -, -⟩ := blk6 M8.out.k7
    obtain ⟨u0, u1, u2, -, -, -⟩ := blk3 (blk_below K16.out hb8)
    clear hb8 M7 HL1_ K16
    go_wp2_with fail
    clear y0 y1 y2 y3 y4 y5 u0 u1 u2
    refine Calls.mono (HL2_.out _ _ _ ⟨_, _, _, rfl, LR.out, NR.out⟩ ⟨_, _, _, rfl, LB.out, NB.out⟩) ?_
    rintro e w9 ⟨rfl, hb9⟩
    have M9 : Hid (QSt w w9 g7 #[.int .u64 (xl : Int), .int .u64 (xh : Int)] #[.bool a1.1, .slice ao la ca, .int .i64 a1.2.2, .bool a2.1, .slice bo lb cb, .int .i64 a2.2.2]) := M8.out.below hb9
    have NA : Hid (NatV w9 (.slice ao la ca) _) := NA.out.below hb9 (Nat.le_refl _)
    have NB : Hid (NatV w9 (.slice bo lb cb) _) := NB.out.below hb9 (Nat.le_refl _)
    obtain ⟨y0, y1, y2, y3, y4, y5, -, -, -, -, -, -⟩ := blk6 M9.out.k7
    clear hb9 M8 HL2_ NR LR
    go_wp2_with fail
    clear y0 y1 y2 y3 y4 y5
    refine Calls.mono (HR1_.out _ _ ⟨_, _, _, rfl, LA.out, NA.out⟩) ?_
    rintro e w10 ⟨rfl, hb10⟩
    have M10 : Hid (QSt w w10 g7 #[.int .u64 (xl : Int), .int .u64 (xh : Int)] #[.bool a1.1, .slice ao la ca, .int .i64 a1.2.2, .bool a2.1, .slice bo lb cb, .int .i64 a2.2.2]) := M9.out.below hb10
    have NB : Hid (NatV w10 (.slice bo lb cb) _) := NB.out.below hb10 (Nat.le_refl _)
    obtain ⟨y0, y1, y2, y3, y4, y5, -, -, -, -, -, -⟩ := blk6 M10.out.k7
    clear hb10 M9 HR1_ NA LA
    go_wp2_with fail
    clear y0 y1 y2 y3 y4 y5
    refine Calls.mono (HR2_.out _ _ ⟨_, _, _, rfl, LB.out, NB.out⟩) ?_
    rintro e w11 ⟨rfl, hb11⟩
    have hF : Below w.heap.size w w11 := M10.out.hb.trans (hb11.mono M10.out.hb.size)
    clear hb11 M10 HR2_ NB LB
    rcases HST_.out with h | h | h | h
    · subst h
      go_wp2_with fail
      go_ret
      exact ⟨_, rfl, hF.size, blk_new w11 _, hF.alloc hF.size _⟩
    · subst h
      by_cases hd : dep = 0
      · subst hd
        go_wp2_with fail
        go_ret
        exact ⟨_, rfl, hF.size, blk_new w11 _, hF.alloc hF.size _⟩
      · go_wp2_with fail
        go_ret
        exact ⟨_, rfl, hF.size, blk_new w11 _, hF.alloc hF.size _⟩
    · subst h
      by_cases hd : dep = 0
      · subst hd
        go_wp2_with fail
        go_ret
        exact ⟨_, rfl, hF.size, blk_new w11 _, hF.alloc hF.size _⟩
      · cases ok <;>
        (go_wp2_with fail
         go_ret
         exact ⟨_, rfl, hF.size, blk_new w11 _, hF.alloc hF.size _⟩)
    · subst h
      by_cases hd : dep = 0
      · subst hd
        go_wp2_with fail
        go_ret
        exact ⟨_, rfl, hF.size, blk_new w11 _, hF.alloc hF.size _⟩
      · cases ok <;> cases l1 <;>
        (go_wp2_with fail
         go_ret
         exact ⟨_, rfl, hF.size, blk_new w11 _, hF.alloc hF.size _⟩)
  · subst hv hzt
    go_wp2_with fail
    refine Calls.mono (HS_.out _ ao bo la ca lb cb LA.out NA.out LB.out NB.out) ?_
    rintro e w5 ⟨vo, vl, vc, rfl, hvl, hvn, hb5⟩
    have hs5 : Below w4.heap.size w4 (w5.alloc (Obj.cells #[.bool q.1, .slice vo vl vc, .int .i64 (q.2.2 - 1)] 92)) := hb5.alloc hb5.size _
    have M5 : Hid (QSt w (w5.alloc (Obj.cells #[.bool q.1, .slice vo vl vc, .int .i64 (q.2.2 - 1)] 92)) g7 #[.int .u64 (xl : Int), .int .u64 (xh : Int)] #[.bool a1.1, .slice ao la ca, .int .i64 a1.2.2, .bool a2.1, .slice bo lb cb, .int .i64 a2.2.2]) := M4.out.below hs5
    have NA : Hid (NatV (w5.alloc (Obj.cells #[.bool q.1, .slice vo vl vc, .int .i64 (q.2.2 - 1)] 92)) (.slice ao la ca) _) := NA.out.below hs5 (Nat.le_refl _)
    have NB : Hid (NatV (w5.alloc (Obj.cells #[.bool q.1, .slice vo vl vc, .int .i64 (q.2.2 - 1)] 92)) (.slice bo lb cb) _) := NB.out.below hs5 (Nat.le_refl _)
    have LV : Hid (vl = _) := hvl
    have NV : Hid (NatV (w5.alloc (Obj.cells #[.bool q.1, .slice vo vl vc, .int .i64 (q.2.2 - 1)] 92)) (.slice vo vl vc) _) := hvn.below ((Below.refl _ _).alloc (Nat.le_refl _) _) (Nat.le_refl _)
    clear hvl hvn hb5 hs5 M4 HS_ y0 y1 y2 y3 y4 y5
    go_wp2_with fail
    generalize (w5.alloc (Obj.cells #[.bool q.1, .slice vo vl vc, .int .i64 (q.2.2 - 1)] 92)) = W5 at *
    refine Calls.mono (HR_.out _ vo vl vc LV.out NV.out) ?_
    rintro e w6 ⟨rfl, hb6⟩
    have M6 : Hid (QSt w w6 g7 #[.int .u64 (xl : Int), .int .u64 (xh : Int)] #[.bool a1.1, .slice ao la ca, .int .i64 a1.2.2, .bool a2.1, .slice bo lb cb, .int .i64 a2.2.2]) := M5.out.below hb6
    have NA : Hid (NatV w6 (.slice ao la ca) _) := NA.out.below hb6 (Nat.le_refl _)
    have NB : Hid (NatV w6 (.slice bo lb cb) _) := NB.out.below hb6 (Nat.le_refl _)
    clear hb6 M5 HR_ NV LV
    go_wp2_with fail
    refine Calls.mono (HP_.out _) ?_
    rintro e w7 ⟨ro, rl, rc, bb, rfl, hrl, hrn, hb7⟩
    have hs7 : Below w6.heap.size w6 (w7.alloc (Obj.cells #[.bool r.1, .slice ro rl rc, .int .i64 r.2.2] 92)) := hb7.alloc hb7.size _
    have M7 : Hid (QSt w (w7.alloc (Obj.cells #[.bool r.1, .slice ro rl rc, .int .i64 r.2.2] 92)) g7 #[.int .u64 (xl : Int), .int .u64 (xh : Int)] #[.bool a1.1, .slice ao la ca, .int .i64 a1.2.2, .bool a2.1, .slice bo lb cb, .int .i64 a2.2.2]) := M6.out.below hs7
    have K16 : Hid ((w7.alloc (Obj.cells #[.bool r.1, .slice ro rl rc, .int .i64 r.2.2] 92)).heap[w7.heap.size]? = _) := blk_new w7 _
    have NA : Hid (NatV (w7.alloc (Obj.cells #[.bool r.1, .slice ro rl rc, .int .i64 r.2.2] 92)) (.slice ao la ca) _) := NA.out.below hs7 (Nat.le_refl _)
    have NB : Hid (NatV (w7.alloc (Obj.cells #[.bool r.1, .slice ro rl rc, .int .i64 r.2.2] 92)) (.slice bo lb cb) _) := NB.out.below hs7 (Nat.le_refl _)
    have LR : Hid (rl = _) := hrl
    have NR : Hid (NatV (w7.alloc (Obj.cells #[.bool r.1, .slice ro rl rc, .int .i64 r.2.2] 92)) (.slice ro rl rc) _) := hrn.below ((Below.refl _ _).alloc (Nat.le_refl _) _) (Nat.le_refl _)
    obtain ⟨y0, y1, y2, y3, y4, y5, -, -, -, -, -, -⟩ := blk6 (M6.out.below hb7).k7
    have ly := lt_of_row (M6.out.below hb7).k7
    clear hrl hrn hb7 hs7 M6 HP_
    go_wp2_with fail
    clear y0 y1 y2 y3 y4 y5 ly
    generalize hg16 : w7.heap.size = g16 at *
    generalize (w7.alloc (Obj.cells #[.bool r.1, .slice ro rl rc, .int .i64 r.2.2] 92)) = W7 at *
    refine Calls.mono (HL1_.out _ _ _ ⟨_, _, _, rfl, LA.out, NA.out⟩ ⟨_, _, _, rfl, LR.out, NR.out⟩) ?_
    rintro e w8 ⟨rfl, hb8⟩
    have M8 : Hid (QSt w w8 g7 #[.int .u64 (xl : Int), .int .u64 (xh : Int)] #[.bool a1.1, .slice ao la ca, .int .i64 a1.2.2, .bool a2.1, .slice bo lb cb, .int .i64 a2.2.2]) := M7.out.below hb8
    have NA : Hid (NatV w8 (.slice ao la ca) _) := NA.out.below hb8 (Nat.le_refl _)
    have NB : Hid (NatV w8 (.slice bo lb cb) _) := NB.out.below hb8 (Nat.le_refl _)
    have NR : Hid (NatV w8 (.slice ro rl rc) _) := NR.out.below hb8 (Nat.le_refl _)
    obtain ⟨y0, y1, y2, y3, y4, y5, -, -, -, -, -, -⟩ := blk6 M8.out.k7
    obtain ⟨u0, u1, u2, -, -, -⟩ := blk3 (blk_below K16.out hb8)
    clear hb8 M7 HL1_ K16
    go_wp2_with fail
    clear y0 y1 y2 y3 y4 y5 u0 u1 u2
    refine Calls.mono (HL2_.out _ _ _ ⟨_, _, _, rfl, LR.out, NR.out⟩ ⟨_, _, _, rfl, LB.out, NB.out⟩) ?_
    rintro e w9 ⟨rfl, hb9⟩
    have M9 : Hid (QSt w w9 g7 #[.int .u64 (xl : Int), .int .u64 (xh : Int)] #[.bool a1.1, .slice ao la ca, .int .i64 a1.2.2, .bool a2.1, .slice bo lb cb, .int .i64 a2.2.2]) := M8.out.below hb9
    have NA : Hid (NatV w9 (.slice ao la ca) _) := NA.out.below hb9 (Nat.le_refl _)
    have NB : Hid (NatV w9 (.slice bo lb cb) _) := NB.out.below hb9 (Nat.le_refl _)
    obtain ⟨y0, y1, y2, y3, y4, y5, -, -, -, -, -, -⟩ := blk6 M9.out.k7
    clear hb9 M8 HL2_ NR LR
    go_wp2_with fail
    clear y0 y1 y2 y3 y4 y5
    refine Calls.mono (HR1_.out _ _ ⟨_, _, _, rfl, LA.out, NA.out⟩) ?_
    rintro e w10 ⟨rfl, hb10⟩
    have M10 : Hid (QSt w w10 g7 #[.int .u64 (xl : Int), .int .u64 (xh : Int)] #[.bool a1.1, .slice ao la ca, .int .i64 a1.2.2, .bool a2.1, .slice bo lb cb, .int .i64 a2.2.2]) := M9.out.below hb10
    have NB : Hid (NatV w10 (.slice bo lb cb) _) := NB.out.below hb10 (Nat.le_refl _)
    obtain ⟨y0, y1, y2, y3, y4, y5, -, -, -, -, -, -⟩ := blk6 M10.out.k7
    clear hb10 M9 HR1_ NA LA
    go_wp2_with fail
    clear y0 y1 y2 y3 y4 y5
    refine Calls.mono (HR2_.out _ _ ⟨_, _, _, rfl, LB.out, NB.out⟩) ?_
    rintro e w11 ⟨rfl, hb11⟩
    have hF : Below w.heap.size w w11 := M10.out.hb.trans (hb11.mono M10.out.hb.size)
    clear hb11 M10 HR2_ NB LB
    rcases HST_.out with h | h | h | h
    · subst h
      go_wp2_with fail
      go_ret
      exact ⟨_, rfl, hF.size, blk_new w11 _, hF.alloc hF.size _⟩
    · subst h
      by_cases hd : dep = 0
      · subst hd
        go_wp2_with fail
        go_ret
        exact ⟨_, rfl, hF.size, blk_new w11 _, hF.alloc hF.size _⟩
      · go_wp2_with fail
        go_ret
        exact ⟨_, rfl, hF.size, blk_new w11 _, hF.alloc hF.size _⟩
    · subst h
      by_cases hd : dep = 0
      · subst hd
        go_wp2_with fail
        go_ret
        exact ⟨_, rfl, hF.size, blk_new w11 _, hF.alloc hF.size _⟩
      · cases ok <;>
        (go_wp2_with fail
         go_ret
         exact ⟨_, rfl, hF.size, blk_new w11 _, hF.alloc hF.size _⟩)
    · subst h
      by_cases hd : dep = 0
      · subst hd
        go_wp2_with fail
        go_ret
        exact ⟨_, rfl, hF.size, blk_new w11 _, hF.alloc hF.size _⟩
      · cases ok <;> cases l1 <;>
        (go_wp2_with fail
         go_ret
         exact ⟨_, rfl, hF.size, blk_new w11 _, hF.alloc hF.size _⟩)
end Go.Proofs.YtonhpkigoplmaaaGreatDoor
namespace Go.Proofs.YtonhpkigoplmaaaGreatDoor
open Go.RowKit

/-- Boxes as cells. -/
def bvs : List (Nat × Nat) → List Value
  | [] => []
  | p :: l => .int .u64 (p.1 : Int) :: .int .u64 (p.2 : Int) :: bvs l

theorem bvs_append : ∀ a b : List (Nat × Nat), bvs (a ++ b) = bvs a ++ bvs b
  | [], b => rfl
  | p :: a, b => by rw [List.cons_append]; show _ :: _ :: bvs (a ++ b) = _; rw [bvs_append a b]; rfl

theorem bvs_len : ∀ a : List (Nat × Nat), (bvs a).length = a.length * 2
  | [] => rfl
  | p :: a => by show (bvs a).length + 1 + 1 = (a.length + 1) * 2; rw [bvs_len a]; omega

theorem bvs_one : ∀ a : List (Nat × Nat), ∀ u ∈ bvs a, u.oneCell' = true
  | [], u, hu => by cases hu
  | p :: a, u, hu => by
    rcases List.mem_cons.1 hu with rfl | hu
    · rfl
    · rcases List.mem_cons.1 hu with rfl | hu
      · rfl
      · exact bvs_one a u hu

theorem infoBox : (Tryz.prog.info? 28).map (fun i => (i.zero, i.size, i.bytes)) = some (some (.agg #[.int .u64 0, .int .u64 0]), 2, 16) := by kernel_rfl

theorem ownsRow_mono {W W' : World} {B B' T k : Nat} {v : Value} {n : Nat} {xs : List Value} (h : W.ownsRow B T k v n xs) (hb : Below W.heap.size W W') (hB : B' ≤ B) : W'.ownsRow B' T k v n xs :=
  ⟨h.1, h.2.imp id (fun ⟨g, cap, cur, e, hg, hh, r⟩ => ⟨g, cap, cur, e, Nat.le_trans hB hg, blk_below hh hb, r⟩)⟩

set_option maxHeartbeats 8000000 in
set_option maxRecDepth 100000 in
theorem piece_split (po : Option Addr) (n pc : Nat) (dep : Int) (xl xh v1 v2 v3 : Nat) (vs : ByteArray) (a1 a2 c1 c2 q r : Bool × Nat × Int) (z ok l1 l2 : Bool) (m al ah : Nat) (w : World)
    (hM : MadeG #[.agg #[.int .u64 (xl : Int), .int .u64 (xh : Int)]] a1 a2)
    (hE : ∀ W, Below w.heap.size w W → Calls Tryz.prog 36 #[.slice po n pc, .agg #[.int .u64 (xl : Int), .int .u64 (xh : Int)]] W fun e w' => e = .returned (.tuple #[.agg #[.int .u64 (v1 : Int), .int .u64 (v2 : Int)], .int .i64 (v3 : Int), .string vs]) ∧ Below W.heap.size W w')
    (hV : MadeG #[.agg #[.int .u64 (v1 : Int), .int .u64 (v2 : Int)]] c1 c2)
    (hz : ∀ (W : World) (v : Value), IvV W v c1 c2 → Calls Tryz.prog 121 #[v] W fun e w' => e = .returned (.bool z) ∧ Below W.heap.size W w')
    (hk : v3 ≠ 0 ∨ z = true)
    (hS : ∀ (W : World) (ao bo : Option Addr) (la ca lb cb : Nat), la = (digits a1.2.1).length → NatV W (.slice ao la ca) a1.2.1 → lb = (digits a2.2.1).length → NatV W (.slice bo lb cb) a2.2.1 → Calls Tryz.prog 65 #[.agg #[.bool a1.1, .slice ao la ca, .int .i64 a1.2.2], .agg #[.bool a2.1, .slice bo lb cb, .int .i64 a2.2.2]] W fun ev w'' => ∃ vo vl vc, ev = .returned (.agg #[.bool q.1, .slice vo vl vc, .int .i64 q.2.2]) ∧ vl = (digits q.2.1).length ∧ NatV w'' (.slice vo vl vc) q.2.1 ∧ Below W.heap.size W w'')
    (hq1 : -10000 ≤ q.2.2) (hq2 : q.2.2 ≤ 10000)
    (hR : ∀ (W : World) (vo : Option Addr) (vl vc : Nat), vl = (digits q.2.1).length → NatV W (.slice vo vl vc) q.2.1 → Calls Tryz.prog 115 #[.agg #[.bool q.1, .slice vo vl vc, .int .i64 (q.2.2 - 1)], .int .i64 0] W fun e w' => e = .returned (.tuple #[.int .u64 (m : Int), .bool ok]) ∧ Below W.heap.size W w')
    (hP : ∀ W : World, Calls Tryz.prog 57 #[.int .u64 (m : Int)] W fun e w' => ∃ ro rl rc b, e = .returned (.tuple #[.agg #[.bool r.1, .slice ro rl rc, .int .i64 r.2.2], .bool b]) ∧ rl = (digits r.2.1).length ∧ NatV w' (.slice ro rl rc) r.2.1 ∧ Below W.heap.size W w')
    (hL1 : ∀ (W : World) (u v : Value), NumV W u a1.1 a1.2.1 a1.2.2 → NumV W v r.1 r.2.1 r.2.2 → Calls Tryz.prog 58 #[u, v] W fun e w' => e = .returned (.bool l1) ∧ Below W.heap.size W w')
    (hL2 : ∀ (W : World) (u v : Value), NumV W u r.1 r.2.1 r.2.2 → NumV W v a2.1 a2.2.1 a2.2.2 → Calls Tryz.prog 58 #[u, v] W fun e w' => e = .returned (.bool l2) ∧ Below W.heap.size W w')
    (hR1 : ∀ (W : World) (u : Value), NumV W u a1.1 a1.2.1 a1.2.2 → Calls Tryz.prog 115 #[u, .int .i64 0] W fun e w' => e = .returned (.tuple #[.int .u64 (al : Int), .bool true]) ∧ Below W.heap.size W w')
    (hR2 : ∀ (W : World) (u : Value), NumV W u a2.1 a2.2.1 a2.2.2 → Calls Tryz.prog 115 #[u, .int .i64 0] W fun e w' => e = .returned (.tuple #[.int .u64 (ah : Int), .bool true]) ∧ Below W.heap.size W w')
    (hst : ok = true ∧ l1 = true ∧ l2 = true) (hd1 : 1 ≤ dep) (hd2 : dep ≤ 8) (ls rs : List (Nat × Nat)) (hlen : ls.length + rs.length ≤ 1000)
    (hA : ∀ W, Below w.heap.size w W → Calls Tryz.prog 82 #[.slice po n pc, .agg #[.int .u64 (al : Int), .int .u64 (m : Int)], .int .i64 (dep - 1)] W fun e w' => ∃ v, e = .returned v ∧ w'.ownsRow W.heap.size 28 2 v ls.length (bvs ls) ∧ (ls = [] ↔ v = .slice none 0 0) ∧ Below W.heap.size W w')
    (hB : ∀ W, Below w.heap.size w W → Calls Tryz.prog 82 #[.slice po n pc, .agg #[.int .u64 (m : Int), .int .u64 (ah : Int)], .int .i64 (dep - 1)] W fun e w' => ∃ v, e = .returned v ∧ w'.ownsRow W.heap.size 28 2 v rs.length (bvs rs) ∧ (rs = [] ↔ v = .slice none 0 0) ∧ Below W.heap.size W w') :
    Calls Tryz.prog 82 #[.slice po n pc, .agg #[.int .u64 (xl : Int), .int .u64 (xh : Int)], .int .i64 dep] w fun e w' => ∃ v, e = .returned v ∧ w'.ownsRow w.heap.size 28 2 v (ls ++ rs).length (bvs (ls ++ rs)) ∧ ((ls ++ rs) = [] ↔ v = .slice none 0 0) ∧ Below w.heap.size w w' := by
  have HM_ := hid hM
  have HE_ := hid hE
  have HV_ := hid hV
  have HZ_ := hid hz
  have HS_ := hid hS
  have HR_ := hid hR
  have HP_ := hid hP
  have HL1_ := hid hL1
  have HL2_ := hid hL2
  have HR1_ := hid hR1
  have HR2_ := hid hR2
  have HST_ := hid hst
  have HD1_ := hid hd1
  have HD2_ := hid hd2
  have HLEN_ := hid hlen
  have HA_ := hid hA
  have HB_ := hid hB
  have HK_ : Hid (v3 ≠ 0 ∨ z = true) := hk
  have qb1 : -9223372036854775808 ≤ q.2.2 - 1 := by omega
  have qb2 : q.2.2 - 1 < 9223372036854775808 := by omega
  clear hM hE hV hz hS hR hP hL1 hL2 hR1 hR2 hst hd1 hd2 hlen hA hB hk hq1 hq2
  go_enter Tryz.func82, Tryz.ntmps82
  go_wp2_with fail
  have B4 := blk_new w (Obj.cells #[.int .u64 (xl : Int), .int .u64 (xh : Int)] 28)
  have hW : Below w.heap.size w (w.alloc (Obj.cells #[.int .u64 (xl : Int), .int .u64 (xh : Int)] 28)) := (Below.refl _ _).alloc (Nat.le_refl _) _
  generalize (w.alloc (Obj.cells #[.int .u64 (xl : Int), .int .u64 (xh : Int)] 28)) = W1 at *
  refine Calls.mono (HM_.out _) ?_
  rintro e w1 ⟨ao, la, ca, bo, lb, cb, rfl, hla, hlb, hna, hnb, hb1⟩
  have M1 : Hid (QSt w (w1.alloc (Obj.cells #[.bool a1.1, .slice ao la ca, .int .i64 a1.2.2, .bool a2.1, .slice bo lb cb, .int .i64 a2.2.2] 98)) w1.heap.size #[.int .u64 (xl : Int), .int .u64 (xh : Int)] #[.bool a1.1, .slice ao la ca, .int .i64 a1.2.2, .bool a2.1, .slice bo lb cb, .int .i64 a2.2.2]) := ⟨blk_old (blk_below B4 hb1) _, blk_new w1 _, (hW.trans (hb1.mono hW.size)).alloc (Nat.le_trans hW.size hb1.size) _⟩
  have LA : Hid (la = _) := hla
  have LB : Hid (lb = _) := hlb
  have NA : Hid (NatV (w1.alloc (Obj.cells #[.bool a1.1, .slice ao la ca, .int .i64 a1.2.2, .bool a2.1, .slice bo lb cb, .int .i64 a2.2.2] 98)) (.slice ao la ca) _) := hna.below ((Below.refl _ _).alloc (Nat.le_refl _) _) (Nat.le_refl _)
  have NB : Hid (NatV (w1.alloc (Obj.cells #[.bool a1.1, .slice ao la ca, .int .i64 a1.2.2, .bool a2.1, .slice bo lb cb, .int .i64 a2.2.2] 98)) (.slice bo lb cb) _) := hnb.below ((Below.refl _ _).alloc (Nat.le_refl _) _) (Nat.le_refl _)
  obtain ⟨x0, x1, -, -⟩ := blk2 (blk_below B4 hb1)
  have lx := lt_of_row (blk_below B4 hb1)
  clear B4 hW hb1 hla hlb hna hnb HM_
  go_wp2_with fail
  clear x0 x1 lx
  generalize w1.heap.size = g7 at *
  generalize (w1.alloc (Obj.cells #[.bool a1.1, .slice ao la ca, .int .i64 a1.2.2, .bool a2.1, .slice bo lb cb, .int .i64 a2.2.2] 98)) = W2 at *
  refine Calls.mono (HE_.out _ M1.out.hb) ?_
  rintro e w2 ⟨rfl, hb2⟩
  have hs2 : Below W2.heap.size W2 (w2.alloc (Obj.cells #[.int .u64 (v1 : Int), .int .u64 (v2 : Int)] 28)) := hb2.alloc hb2.size _
  have M2 : Hid (QSt w (w2.alloc (Obj.cells #[.int .u64 (v1 : Int), .int .u64 (v2 : Int)] 28)) g7 #[.int .u64 (xl : Int), .int .u64 (xh : Int)] #[.bool a1.1, .slice ao la ca, .int .i64 a1.2.2, .bool a2.1, .slice bo lb cb, .int .i64 a2.2.2]) := M1.out.below hs2
  have NA : Hid (NatV (w2.alloc (Obj.cells #[.int .u64 (v1 : Int), .int .u64 (v2 : Int)] 28)) (.slice ao la ca) _) := NA.out.below hs2 (Nat.le_refl _)
  have NB : Hid (NatV (w2.alloc (Obj.cells #[.int .u64 (v1 : Int), .int .u64 (v2 : Int)] 28)) (.slice bo lb cb) _) := NB.out.below hs2 (Nat.le_refl _)
  clear hb2 hs2 M1 HE_
  go_wp2_with fail
  generalize (w2.alloc (Obj.cells #[.int .u64 (v1 : Int), .int .u64 (v2 : Int)] 28)) = W3 at *
  refine Calls.mono (HV_.out _) ?_
  rintro e w3 ⟨co, lc, cc, do_, ld, cd, rfl, hlc, hld, hnc, hnd, hb3⟩
  have hs3 : Below W3.heap.size W3 (w3.alloc (Obj.cells #[.bool c1.1, .slice co lc cc, .int .i64 c1.2.2, .bool c2.1, .slice do_ ld cd, .int .i64 c2.2.2] 98)) := hb3.alloc hb3.size _
  have M3 : Hid (QSt w (w3.alloc (Obj.cells #[.bool c1.1, .slice co lc cc, .int .i64 c1.2.2, .bool c2.1, .slice do_ ld cd, .int .i64 c2.2.2] 98)) g7 #[.int .u64 (xl : Int), .int .u64 (xh : Int)] #[.bool a1.1, .slice ao la ca, .int .i64 a1.2.2, .bool a2.1, .slice bo lb cb, .int .i64 a2.2.2]) := M2.out.below hs3
  have NA : Hid (NatV (w3.alloc (Obj.cells #[.bool c1.1, .slice co lc cc, .int .i64 c1.2.2, .bool c2.1, .slice do_ ld cd, .int .i64 c2.2.2] 98)) (.slice ao la ca) _) := NA.out.below hs3 (Nat.le_refl _)
  have NB : Hid (NatV (w3.alloc (Obj.cells #[.bool c1.1, .slice co lc cc, .int .i64 c1.2.2, .bool c2.1, .slice do_ ld cd, .int .i64 c2.2.2] 98)) (.slice bo lb cb) _) := NB.out.below hs3 (Nat.le_refl _)
  have IV : Hid (IvV (w3.alloc (Obj.cells #[.bool c1.1, .slice co lc cc, .int .i64 c1.2.2, .bool c2.1, .slice do_ ld cd, .int .i64 c2.2.2] 98)) (.agg #[.bool c1.1, .slice co lc cc, .int .i64 c1.2.2, .bool c2.1, .slice do_ ld cd, .int .i64 c2.2.2]) c1 c2) := ⟨co, lc, cc, do_, ld, cd, rfl, hlc, hld, hnc.below ((Below.refl _ _).alloc (Nat.le_refl _) _) (Nat.le_refl _), hnd.below ((Below.refl _ _).alloc (Nat.le_refl _) _) (Nat.le_refl _)⟩
  clear hb3 hs3 M2 HV_ hlc hld hnc hnd
  go_wp2_with fail
  generalize (w3.alloc (Obj.cells #[.bool c1.1, .slice co lc cc, .int .i64 c1.2.2, .bool c2.1, .slice do_ ld cd, .int .i64 c2.2.2] 98)) = W4 at *
  refine Calls.mono (HZ_.out _ _ IV.out) ?_
  rintro e w4 ⟨rfl, hb4⟩
  have M4 : Hid (QSt w w4 g7 #[.int .u64 (xl : Int), .int .u64 (xh : Int)] #[.bool a1.1, .slice ao la ca, .int .i64 a1.2.2, .bool a2.1, .slice bo lb cb, .int .i64 a2.2.2]) := M3.out.below hb4
  have NA : Hid (NatV w4 (.slice ao la ca) _) := NA.out.below hb4 (Nat.le_refl _)
  have NB : Hid (NatV w4 (.slice bo lb cb) _) := NB.out.below hb4 (Nat.le_refl _)
  obtain ⟨y0, y1, y2, y3, y4, y5, -, -, -, -, -, -⟩ := blk6 M4.out.k7
  clear hb4 M3 HZ_ IV
  have hkk : v3 ≠ 0 ∨ (v3 = 0 ∧ z = true) := by
    rcases HK_.out with h | h
    · exact .inl h
    · by_cases h0 : v3 = 0
      · exact .inr ⟨h0, h⟩
      · exact .inl h0
  clear HK_
  rcases hkk with hv | ⟨hv, hzt⟩
  · have hv' : ¬ (v3 : Int) = 0 := by omega
    clear hv
    go_wp2_with fail
    refine Calls.mono (HS_.out _ ao bo la ca lb cb LA.out NA.out LB.out NB.out) ?_
    rintro e w5 ⟨vo, vl, vc, rfl, hvl, hvn, hb5⟩
    have hs5 : Below w4.heap.size w4 (w5.alloc (Obj.cells #[.bool q.1, .slice vo vl vc, .int .i64 (q.2.2 - 1)] 92)) := hb5.alloc hb5.size _
    have M5 : Hid (QSt w (w5.alloc (Obj.cells #[.bool q.1, .slice vo vl vc, .int .i64 (q.2.2 - 1)] 92)) g7 #[.int .u64 (xl : Int), .int .u64 (xh : Int)] #[.bool a1.1, .slice ao la ca, .int .i64 a1.2.2, .bool a2.1, .slice bo lb cb, .int .i64 a2.2.2]) := M4.out.below hs5
    have NA : Hid (NatV (w5.alloc (Obj.cells #[.bool q.1, .slice vo vl vc, .int .i64 (q.2.2 - 1)] 92)) (.slice ao la ca) _) := NA.out.below hs5 (Nat.le_refl _)
    have NB : Hid (NatV (w5.alloc (Obj.cells #[.bool q.1, .slice vo vl vc, .int .i64 (q.2.2 - 1)] 92)) (.slice bo lb cb) _) := NB.out.below hs5 (Nat.le_refl _)
    have LV : Hid (vl = _) := hvl
    have NV : Hid (NatV (w5.alloc (Obj.cells #[.bool q.1, .slice vo vl vc, .int .i64 (q.2.2 - 1)] 92)) (.slice vo vl vc) _) := hvn.below ((Below.refl _ _).alloc (Nat.le_refl _) _) (Nat.le_refl _)
    clear hvl hvn hb5 hs5 M4 HS_ y0 y1 y2 y3 y4 y5
    go_wp2_with fail
    generalize (w5.alloc (Obj.cells #[.bool q.1, .slice vo vl vc, .int .i64 (q.2.2 - 1)] 92)) = W5 at *
    refine Calls.mono (HR_.out _ vo vl vc LV.out NV.out) ?_
    rintro e w6 ⟨rfl, hb6⟩
    have M6 : Hid (QSt w w6 g7 #[.int .u64 (xl : Int), .int .u64 (xh : Int)] #[.bool a1.1, .slice ao la ca, .int .i64 a1.2.2, .bool a2.1, .slice bo lb cb, .int .i64 a2.2.2]) := M5.out.below hb6
    have NA : Hid (NatV w6 (.slice ao la ca) _) := NA.out.below hb6 (Nat.le_refl _)
    have NB : Hid (NatV w6 (.slice bo lb cb) _) := NB.out.below hb6 (Nat.le_refl _)
    clear hb6 M5 HR_ NV LV
    go_wp2_with fail
    refine Calls.mono (HP_.out _) ?_
    rintro e w7 ⟨ro, rl, rc, bb, rfl, hrl, hrn, hb7⟩
    have hs7 : Below w6.heap.size w6 (w7.alloc (Obj.cells #[.bool r.1, .slice ro rl rc, .int .i64 r.2.2] 92)) := hb7.alloc hb7.size _
    have M7 : Hid (QSt w (w7.alloc (Obj.cells #[.bool r.1, .slice ro rl rc, .int .i64 r.2.2] 92)) g7 #[.int .u64 (xl : Int), .int .u64 (xh : Int)] #[.bool a1.1, .slice ao la ca, .int .i64 a1.2.2, .bool a2.1, .slice bo lb cb, .int .i64 a2.2.2]) := M6.out.below hs7
    have K16 : Hid ((w7.alloc (Obj.cells #[.bool r.1, .slice ro rl rc, .int .i64 r.2.2] 92)).heap[w7.heap.size]? = _) := blk_new w7 _
    have NA : Hid (NatV (w7.alloc (Obj.cells #[.bool r.1, .slice ro rl rc, .int .i64 r.2.2] 92)) (.slice ao la ca) _) := NA.out.below hs7 (Nat.le_refl _)
    have NB : Hid (NatV (w7.alloc (Obj.cells #[.bool r.1, .slice ro rl rc, .int .i64 r.2.2] 92)) (.slice bo lb cb) _) := NB.out.below hs7 (Nat.le_refl _)
    have LR : Hid (rl = _) := hrl
    have NR : Hid (NatV (w7.alloc (Obj.cells #[.bool r.1, .slice ro rl rc, .int .i64 r.2.2] 92)) (.slice ro rl rc) _) := hrn.below ((Below.refl _ _).alloc (Nat.le_refl _) _) (Nat.le_refl _)
    obtain ⟨y0, y1, y2, y3, y4, y5, -, -, -, -, -, -⟩ := blk6 (M6.out.below hb7).k7
    have ly := lt_of_row (M6.out.below hb7).k7
    clear hrl hrn hb7 hs7 M6 HP_
    go_wp2_with fail
    clear y0 y1 y2 y3 y4 y5 ly
    generalize hg16 : w7.heap.size = g16 at *
    generalize (w7.alloc (Obj.cells #[.bool r.1, .slice ro rl rc, .int .i64 r.2.2] 92)) = W7 at *
    refine Calls.mono (HL1_.out _ _ _ ⟨_, _, _, rfl, LA.out, NA.out⟩ ⟨_, _, _, rfl, LR.out, NR.out⟩) ?_
    rintro e w8 ⟨rfl, hb8⟩
    have M8 : Hid (QSt w w8 g7 #[.int .u64 (xl : Int), .int .u64 (xh : Int)] #[.bool a1.1, .slice ao la ca, .int .i64 a1.2.2, .bool a2.1, .slice bo lb cb, .int .i64 a2.2.2]) := M7.out.below hb8
    have NA : Hid (NatV w8 (.slice ao la ca) _) := NA.out.below hb8 (Nat.le_refl _)
    have NB : Hid (NatV w8 (.slice bo lb cb) _) := NB.out.below hb8 (Nat.le_refl _)
    have NR : Hid (NatV w8 (.slice ro rl rc) _) := NR.out.below hb8 (Nat.le_refl _)
    obtain ⟨y0, y1, y2, y3, y4, y5, -, -, -, -, -, -⟩ := blk6 M8.out.k7
    obtain ⟨u0, u1, u2, -, -, -⟩ := blk3 (blk_below K16.out hb8)
    clear hb8 M7 HL1_ K16
    go_wp2_with fail
    clear y0 y1 y2 y3 y4 y5 u0 u1 u2
    refine Calls.mono (HL2_.out _ _ _ ⟨_, _, _, rfl, LR.out, NR.out⟩ ⟨_, _, _, rfl, LB.out, NB.out⟩) ?_
    rintro e w9 ⟨rfl, hb9⟩
    have M9 : Hid (QSt w w9 g7 #[.int .u64 (xl : Int), .int .u64 (xh : Int)] #[.bool a1.1, .slice ao la ca, .int .i64 a1.2.2, .bool a2.1, .slice bo lb cb, .int .i64 a2.2.2]) := M8.out.below hb9
    have NA : Hid (NatV w9 (.slice ao la ca) _) := NA.out.below hb9 (Nat.le_refl _)
    have NB : Hid (NatV w9 (.slice bo lb cb) _) := NB.out.below hb9 (Nat.le_refl _)
    obtain ⟨y0, y1, y2, y3, y4, y5, -, -, -, -, -, -⟩ := blk6 M9.out.k7
    clear hb9 M8 HL2_ NR LR
    go_wp2_with fail
    clear y0 y1 y2 y3 y4 y5
    refine Calls.mono (HR1_.out _ _ ⟨_, _, _, rfl, LA.out, NA.out⟩) ?_
    rintro e w10 ⟨rfl, hb10⟩
    have M10 : Hid (QSt w w10 g7 #[.int .u64 (xl : Int), .int .u64 (xh : Int)] #[.bool a1.1, .slice ao la ca, .int .i64 a1.2.2, .bool a2.1, .slice bo lb cb, .int .i64 a2.2.2]) := M9.out.below hb10
    have NB : Hid (NatV w10 (.slice bo lb cb) _) := NB.out.below hb10 (Nat.le_refl _)
    obtain ⟨y0, y1, y2, y3, y4, y5, -, -, -, -, -, -⟩ := blk6 M10.out.k7
    clear hb10 M9 HR1_ NA LA
    go_wp2_with fail
    clear y0 y1 y2 y3 y4 y5
    refine Calls.mono (HR2_.out _ _ ⟨_, _, _, rfl, LB.out, NB.out⟩) ?_
    rintro e w11 ⟨rfl, hb11⟩
    have hF : Below w.heap.size w w11 := M10.out.hb.trans (hb11.mono M10.out.hb.size)
    clear hb11 M10 HR2_ NB LB
    obtain ⟨rfl, rfl, rfl⟩ := HST_.out
    have hd1 : 1 ≤ dep := HD1_.out
    have hd2 : dep ≤ 8 := HD2_.out
    have hd0 : ¬ dep = 0 := by omega
    have dm1 : -9223372036854775808 ≤ dep - 1 := by omega
    have dm2 : dep - 1 < 9223372036854775808 := by omega
    go_wp2_with fail
    refine Calls.mono (HA_.out _ hF) ?_
    rintro e w12 ⟨vL, rfl, hownL, hnilL, hb12⟩
    have HF12 : Hid (Below w.heap.size w w12) := hF.trans (hb12.mono hF.size)
    have OL : Hid (w12.ownsRow w.heap.size 28 2 vL ls.length (bvs ls)) := ownsRow_mono hownL (Below.refl _ _) hF.size
    have NL : Hid (ls = [] ↔ vL = .slice none 0 0) := hnilL
    clear hownL hnilL hb12 hF HA_
    go_wp2_with fail
    refine Calls.mono (HB_.out _ HF12.out) ?_
    rintro e w13 ⟨vR, rfl, hownR, hnilR, hb13⟩
    have HF13 : Hid (Below w.heap.size w w13) := HF12.out.trans (hb13.mono HF12.out.size)
    have OL3 : w13.ownsRow w.heap.size 28 2 vL ls.length (bvs ls) := ownsRow_mono OL.out hb13 (Nat.le_refl _)
    have OR : Hid (w13.ownsRow w.heap.size 28 2 vR rs.length (bvs rs)) := ownsRow_mono hownR (Below.refl _ _) HF12.out.size
    have NR_ : Hid (rs = [] ↔ vR = .slice none 0 0) := hnilR
    clear hownR hnilR hb13 HB_ OL HF12
    have HLN := HLEN_.out
    by_cases hr : rs = []
    · obtain rfl := NR_.out.1 hr
      subst hr
      have OLL : Hid (w13.ownsRow w.heap.size 28 2 vL ls.length (bvs ls)) := OL3
      rcases OL3.2 with ⟨rfl, h0⟩ | ⟨g, cap, cur, rfl, hg, hh, hn, hcap, hs, ht⟩
      · clear OL3 OR NR_
        have H0L : Hid (ls.length = 0) := h0
        clear h0 NL
        go_wp2_with fail
        go_ret
        rw [List.append_nil]
        exact ⟨_, rfl, OLL.out, ⟨fun _ => rfl, fun _ => List.length_eq_zero_iff.1 H0L.out⟩, HF13.out⟩
      · have HNF : Hid (ls ≠ []) := fun h => by have := NL.out.1 h; cases this
        have hn' : (ls.length : Int) ≤ (cap : Int) := by omega
        clear OL3 OR NR_ hg hh hcap hs ht NL
        go_wp2_with fail
        go_ret
        rw [List.append_nil]
        exact ⟨_, rfl, OLL.out, ⟨fun h => absurd h HNF.out, fun h => by cases h⟩, HF13.out⟩
    · have hrl : rs.length ≠ 0 := fun h => hr (List.length_eq_zero_iff.1 h)
      rcases OR.out.2 with ⟨_, h0⟩ | ⟨g, cap, cur, rfl, hg, hh, hn, hcap, hs, ht⟩
      · exact absurd h0 hrl
      · have CC : Hid (∀ j u, (bvs rs)[j]? = some u → w13.cell? ((Addr.mk g 0 none).add j) = some u) := fun j u hj => by
          have ea : (Addr.mk g 0 none).add j = ⟨g, j, none⟩ := by
            by_cases hj : j = 0
            · subst hj; simp [Addr.add]
            · simp [Addr.add, hj]
          rw [ea, cell_of_cur hh]
          rw [← ht, List.getElem?_take] at hj
          split at hj
          · simpa using hj
          · cases hj
        have HO3 : Hid (w13.ownsRow w.heap.size 28 2 vL ls.length (bvs ls)) := OL3
        have HRL : Hid (rs.length ≠ 0) := hrl
        clear OL3 OR NR_ hg hh hn hcap hs ht hr hrl
        obtain ⟨i0, hi, hz0, hz1, hz2⟩ := info_parts infoBox
        go_wp2_with (first
          | (at_builtin; refine wpList_append_own _ rfl _ _ 61 rfl w.heap.size 28 i0 (.agg #[.int .u64 0, .int .u64 0]) 2 16 Tryz.underlying61 hi hz0 hz1 hz2 rfl (by decide) _ _ _ rfl HO3.out ⟨g, 0, none⟩ rs.length cap (bvs rs) rfl (bvs_len rs) CC.out (bvs_one rs) ?c3 ?c4 ?c5 ?_)
          | go_in)
        case c3 => unfold maxLen; omega
        case c4 => omega
        case c5 => exact HF13.out.size
        · intro v' w14 hown' hgrow hnil'
          have hF14 : Below w.heap.size w w14 := HF13.out.grown hgrow HF13.out.size (fun k hk => (HO3.out.lt k hk).1)
          have HNN : Hid ((ls ++ rs) = [] ↔ v' = .slice none 0 0) := by
            constructor
            · intro h
              have : (ls ++ rs).length = 0 := by rw [h]; rfl
              rw [List.length_append] at this
              exact absurd (by omega) HRL.out
            · intro h
              exact absurd (by first | exact (hnil'.1 h).2 | rw [(hnil'.1 h).2]; rfl) HRL.out
          have HOO : Hid (w14.ownsRow w.heap.size 28 2 v' (ls ++ rs).length (bvs (ls ++ rs))) := by
            show World.ownsRow _ _ _ _ _ _ _
            rw [List.length_append, bvs_append]; exact hown'
          clear hown' hgrow hnil' CC HO3
          go_wp2
          go_ret
          exact ⟨_, rfl, HOO.out, HNN.out, hF14⟩
  · subst hv hzt
    go_wp2_with fail
    refine Calls.mono (HS_.out _ ao bo la ca lb cb LA.out NA.out LB.out NB.out) ?_
    rintro e w5 ⟨vo, vl, vc, rfl, hvl, hvn, hb5⟩
    have hs5 : Below w4.heap.size w4 (w5.alloc (Obj.cells #[.bool q.1, .slice vo vl vc, .int .i64 (q.2.2 - 1)] 92)) := hb5.alloc hb5.size _
    have M5 : Hid (QSt w (w5.alloc (Obj.cells #[.bool q.1, .slice vo vl vc, .int .i64 (q.2.2 - 1)] 92)) g7 #[.int .u64 (xl : Int), .int .u64 (xh : Int)] #[.bool a1.1, .slice ao la ca, .int .i64 a1.2.2, .bool a2.1, .slice bo lb cb, .int .i64 a2.2.2]) := M4.out.below hs5
    have NA : Hid (NatV (w5.alloc (Obj.cells #[.bool q.1, .slice vo vl vc, .int .i64 (q.2.2 - 1)] 92)) (.slice ao la ca) _) := NA.out.below hs5 (Nat.le_refl _)
    have NB : Hid (NatV (w5.alloc (Obj.cells #[.bool q.1, .slice vo vl vc, .int .i64 (q.2.2 - 1)] 92)) (.slice bo lb cb) _) := NB.out.below hs5 (Nat.le_refl _)
    have LV : Hid (vl = _) := hvl
    have NV : Hid (NatV (w5.alloc (Obj.cells #[.bool q.1, .slice vo vl vc, .int .i64 (q.2.2 - 1)] 92)) (.slice vo vl vc) _) := hvn.below ((Below.refl _ _).alloc (Nat.le_refl _) _) (Nat.le_refl _)
    clear hvl hvn hb5 hs5 M4 HS_ y0 y1 y2 y3 y4 y5
    go_wp2_with fail
    generalize (w5.alloc (Obj.cells #[.bool q.1, .slice vo vl vc, .int .i64 (q.2.2 - 1)] 92)) = W5 at *
    refine Calls.mono (HR_.out _ vo vl vc LV.out NV.out) ?_
    rintro e w6 ⟨rfl, hb6⟩
    have M6 : Hid (QSt w w6 g7 #[.int .u64 (xl : Int), .int .u64 (xh : Int)] #[.bool a1.1, .slice ao la ca, .int .i64 a1.2.2, .bool a2.1, .slice bo lb cb, .int .i64 a2.2.2]) := M5.out.below hb6
    have NA : Hid (NatV w6 (.slice ao la ca) _) := NA.out.below hb6 (Nat.le_refl _)
    have NB : Hid (NatV w6 (.slice bo lb cb) _) := NB.out.below hb6 (Nat.le_refl _)
    clear hb6 M5 HR_ NV LV
    go_wp2_with fail
    refine Calls.mono (HP_.out _) ?_
    rintro e w7 ⟨ro, rl, rc, bb, rfl, hrl, hrn, hb7⟩
    have hs7 : Below w6.heap.size w6 (w7.alloc (Obj.cells #[.bool r.1, .slice ro rl rc, .int .i64 r.2.2] 92)) := hb7.alloc hb7.size _
    have M7 : Hid (QSt w (w7.alloc (Obj.cells #[.bool r.1, .slice ro rl rc, .int .i64 r.2.2] 92)) g7 #[.int .u64 (xl : Int), .int .u64 (xh : Int)] #[.bool a1.1, .slice ao la ca, .int .i64 a1.2.2, .bool a2.1, .slice bo lb cb, .int .i64 a2.2.2]) := M6.out.below hs7
    have K16 : Hid ((w7.alloc (Obj.cells #[.bool r.1, .slice ro rl rc, .int .i64 r.2.2] 92)).heap[w7.heap.size]? = _) := blk_new w7 _
    have NA : Hid (NatV (w7.alloc (Obj.cells #[.bool r.1, .slice ro rl rc, .int .i64 r.2.2] 92)) (.slice ao la ca) _) := NA.out.below hs7 (Nat.le_refl _)
    have NB : Hid (NatV (w7.alloc (Obj.cells #[.bool r.1, .slice ro rl rc, .int .i64 r.2.2] 92)) (.slice bo lb cb) _) := NB.out.below hs7 (Nat.le_refl _)
    have LR : Hid (rl = _) := hrl
    have NR : Hid (NatV (w7.alloc (Obj.cells #[.bool r.1, .slice ro rl rc, .int .i64 r.2.2] 92)) (.slice ro rl rc) _) := hrn.below ((Below.refl _ _).alloc (Nat.le_refl _) _) (Nat.le_refl _)
    obtain ⟨y0, y1, y2, y3, y4, y5, -, -, -, -, -, -⟩ := blk6 (M6.out.below hb7).k7
    have ly := lt_of_row (M6.out.below hb7).k7
    clear hrl hrn hb7 hs7 M6 HP_
    go_wp2_with fail
    clear y0 y1 y2 y3 y4 y5 ly
    generalize hg16 : w7.heap.size = g16 at *
    generalize (w7.alloc (Obj.cells #[.bool r.1, .slice ro rl rc, .int .i64 r.2.2] 92)) = W7 at *
    refine Calls.mono (HL1_.out _ _ _ ⟨_, _, _, rfl, LA.out, NA.out⟩ ⟨_, _, _, rfl, LR.out, NR.out⟩) ?_
    rintro e w8 ⟨rfl, hb8⟩
    have M8 : Hid (QSt w w8 g7 #[.int .u64 (xl : Int), .int .u64 (xh : Int)] #[.bool a1.1, .slice ao la ca, .int .i64 a1.2.2, .bool a2.1, .slice bo lb cb, .int .i64 a2.2.2]) := M7.out.below hb8
    have NA : Hid (NatV w8 (.slice ao la ca) _) := NA.out.below hb8 (Nat.le_refl _)
    have NB : Hid (NatV w8 (.slice bo lb cb) _) := NB.out.below hb8 (Nat.le_refl _)
    have NR : Hid (NatV w8 (.slice ro rl rc) _) := NR.out.below hb8 (Nat.le_refl _)
    obtain ⟨y0, y1, y2, y3, y4, y5, -, -, -, -, -, -⟩ := blk6 M8.out.k7
    obtain ⟨u0, u1, u2, -, -, -⟩ := blk3 (blk_below K16.out hb8)
    clear hb8 M7 HL1_ K16
    go_wp2_with fail
    clear y0 y1 y2 y3 y4 y5 u0 u1 u2
    refine Calls.mono (HL2_.out _ _ _ ⟨_, _, _, rfl, LR.out, NR.out⟩ ⟨_, _, _, rfl, LB.out, NB.out⟩) ?_
    rintro e w9 ⟨rfl, hb9⟩
    have M9 : Hid (QSt w w9 g7 #[.int .u64 (xl : Int), .int .u64 (xh : Int)] #[.bool a1.1, .slice ao la ca, .int .i64 a1.2.2, .bool a2.1, .slice bo lb cb, .int .i64 a2.2.2]) := M8.out.below hb9
    have NA : Hid (NatV w9 (.slice ao la ca) _) := NA.out.below hb9 (Nat.le_refl _)
    have NB : Hid (NatV w9 (.slice bo lb cb) _) := NB.out.below hb9 (Nat.le_refl _)
    obtain ⟨y0, y1, y2, y3, y4, y5, -, -, -, -, -, -⟩ := blk6 M9.out.k7
    clear hb9 M8 HL2_ NR LR
    go_wp2_with fail
    clear y0 y1 y2 y3 y4 y5
    refine Calls.mono (HR1_.out _ _ ⟨_, _, _, rfl, LA.out, NA.out⟩) ?_
    rintro e w10 ⟨rfl, hb10⟩
    have M10 : Hid (QSt w w10 g7 #[.int .u64 (xl : Int), .int .u64 (xh : Int)] #[.bool a1.1, .slice ao la ca, .int .i64 a1.2.2, .bool a2.1, .slice bo lb cb, .int .i64 a2.2.2]) := M9.out.below hb10
    have NB : Hid (NatV w10 (.slice bo lb cb) _) := NB.out.below hb10 (Nat.le_refl _)
    obtain ⟨y0, y1, y2, y3, y4, y5, -, -, -, -, -, -⟩ := blk6 M10.out.k7
    clear hb10 M9 HR1_ NA LA
    go_wp2_with fail
    clear y0 y1 y2 y3 y4 y5
    refine Calls.mono (HR2_.out _ _ ⟨_, _, _, rfl, LB.out, NB.out⟩) ?_
    rintro e w11 ⟨rfl, hb11⟩
    have hF : Below w.heap.size w w11 := M10.out.hb.trans (hb11.mono M10.out.hb.size)
    clear hb11 M10 HR2_ NB LB
    obtain ⟨rfl, rfl, rfl⟩ := HST_.out
    have hd1 : 1 ≤ dep := HD1_.out
    have hd2 : dep ≤ 8 := HD2_.out
    have hd0 : ¬ dep = 0 := by omega
    have dm1 : -9223372036854775808 ≤ dep - 1 := by omega
    have dm2 : dep - 1 < 9223372036854775808 := by omega
    go_wp2_with fail
    refine Calls.mono (HA_.out _ hF) ?_
    rintro e w12 ⟨vL, rfl, hownL, hnilL, hb12⟩
    have HF12 : Hid (Below w.heap.size w w12) := hF.trans (hb12.mono hF.size)
    have OL : Hid (w12.ownsRow w.heap.size 28 2 vL ls.length (bvs ls)) := ownsRow_mono hownL (Below.refl _ _) hF.size
    have NL : Hid (ls = [] ↔ vL = .slice none 0 0) := hnilL
    clear hownL hnilL hb12 hF HA_
    go_wp2_with fail
    refine Calls.mono (HB_.out _ HF12.out) ?_
    rintro e w13 ⟨vR, rfl, hownR, hnilR, hb13⟩
    have HF13 : Hid (Below w.heap.size w w13) := HF12.out.trans (hb13.mono HF12.out.size)
    have OL3 : w13.ownsRow w.heap.size 28 2 vL ls.length (bvs ls) := ownsRow_mono OL.out hb13 (Nat.le_refl _)
    have OR : Hid (w13.ownsRow w.heap.size 28 2 vR rs.length (bvs rs)) := ownsRow_mono hownR (Below.refl _ _) HF12.out.size
    have NR_ : Hid (rs = [] ↔ vR = .slice none 0 0) := hnilR
    clear hownR hnilR hb13 HB_ OL HF12
    have HLN := HLEN_.out
    by_cases hr : rs = []
    · obtain rfl := NR_.out.1 hr
      subst hr
      have OLL : Hid (w13.ownsRow w.heap.size 28 2 vL ls.length (bvs ls)) := OL3
      rcases OL3.2 with ⟨rfl, h0⟩ | ⟨g, cap, cur, rfl, hg, hh, hn, hcap, hs, ht⟩
      · clear OL3 OR NR_
        have H0L : Hid (ls.length = 0) := h0
        clear h0 NL
        go_wp2_with fail
        go_ret
        rw [List.append_nil]
        exact ⟨_, rfl, OLL.out, ⟨fun _ => rfl, fun _ => List.length_eq_zero_iff.1 H0L.out⟩, HF13.out⟩
      · have HNF : Hid (ls ≠ []) := fun h => by have := NL.out.1 h; cases this
        have hn' : (ls.length : Int) ≤ (cap : Int) := by omega
        clear OL3 OR NR_ hg hh hcap hs ht NL
        go_wp2_with fail
        go_ret
        rw [List.append_nil]
        exact ⟨_, rfl, OLL.out, ⟨fun h => absurd h HNF.out, fun h => by cases h⟩, HF13.out⟩
    · have hrl : rs.length ≠ 0 := fun h => hr (List.length_eq_zero_iff.1 h)
      rcases OR.out.2 with ⟨_, h0⟩ | ⟨g, cap, cur, rfl, hg, hh, hn, hcap, hs, ht⟩
      · exact absurd h0 hrl
      · have CC : Hid (∀ j u, (bvs rs)[j]? = some u → w13.cell? ((Addr.mk g 0 none).add j) = some u) := fun j u hj => by
          have ea : (Addr.mk g 0 none).add j = ⟨g, j, none⟩ := by
            by_cases hj : j = 0
            · subst hj; simp [Addr.add]
            · simp [Addr.add, hj]
          rw [ea, cell_of_cur hh]
          rw [← ht, List.getElem?_take] at hj
          split at hj
          · simpa using hj
          · cases hj
        have HO3 : Hid (w13.ownsRow w.heap.size 28 2 vL ls.length (bvs ls)) := OL3
        have HRL : Hid (rs.length ≠ 0) := hrl
        clear OL3 OR NR_ hg hh hn hcap hs ht hr hrl
        obtain ⟨i0, hi, hz0, hz1, hz2⟩ := info_parts infoBox
        go_wp2_with (first
          | (at_builtin; refine wpList_append_own _ rfl _ _ 61 rfl w.heap.size 28 i0 (.agg #[.int .u64 0, .int .u64 0]) 2 16 Tryz.underlying61 hi hz0 hz1 hz2 rfl (by decide) _ _ _ rfl HO3.out ⟨g, 0, none⟩ rs.length cap (bvs rs) rfl (bvs_len rs) CC.out (bvs_one rs) ?c3 ?c4 ?c5 ?_)
          | go_in)
        case c3 => unfold maxLen; omega
        case c4 => omega
        case c5 => exact HF13.out.size
        · intro v' w14 hown' hgrow hnil'
          have hF14 : Below w.heap.size w w14 := HF13.out.grown hgrow HF13.out.size (fun k hk => (HO3.out.lt k hk).1)
          have HNN : Hid ((ls ++ rs) = [] ↔ v' = .slice none 0 0) := by
            constructor
            · intro h
              have : (ls ++ rs).length = 0 := by rw [h]; rfl
              rw [List.length_append] at this
              exact absurd (by omega) HRL.out
            · intro h
              exact absurd (by first | exact (hnil'.1 h).2 | rw [(hnil'.1 h).2]; rfl) HRL.out
          have HOO : Hid (w14.ownsRow w.heap.size 28 2 v' (ls ++ rs).length (bvs (ls ++ rs))) := by
            show World.ownsRow _ _ _ _ _ _ _
            rw [List.length_append, bvs_append]; exact hown'
          clear hown' hgrow hnil' CC HO3
          go_wp2
          go_ret
          exact ⟨_, rfl, HOO.out, HNN.out, hF14⟩
end Go.Proofs.YtonhpkigoplmaaaGreatDoor
