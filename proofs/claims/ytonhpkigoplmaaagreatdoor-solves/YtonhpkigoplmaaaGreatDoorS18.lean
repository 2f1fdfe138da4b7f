/-
  JdgJ, JdgH, SlvQ, SlvR, JdgN, JdgO.
-/
import Derived.Test.YtonhpkigoplmaaaGreatDoorS13
import Derived.Test.YtonhpkigoplmaaaGreatDoorS12
import Derived.Test.YtonhpkigoplmaaaGreatDoorS16
import Derived.Test.YtonhpkigoplmaaaGreatDoorS11
import Derived.Test.YtonhpkigoplmaaaGreatDoorS17
namespace Go.Proofs.YtonhpkigoplmaaaGreatDoor
open Go.RowKit Go.Extern Ieee

/-- The greatest amount as yet, in memory, and two numbers. -/
structure NaM (w wr : World) (gS : Nat) (x y : Bool × Nat × Int) (ao : Option Addr) (la ca : Nat) (bo : Option Addr) (lb cb : Nat) (q : Bool × Nat × Int) (qo : Option Addr) (ql qc : Nat) : Prop where
  kg : NBk wr w.heap.size q qo ql qc
  kS : wr.heap[gS]? = some (.cells #[.bool false, .slice ao la ca, .int .i64 x.2.2, .bool false, .slice bo lb cb, .int .i64 y.2.2] 92 (0, 0))
  nx : NatV wr (.slice ao la ca) x.2.1
  ny : NatV wr (.slice bo lb cb) y.2.1
  ne : gS ≠ w.heap.size
  hb : Below w.heap.size w wr
theorem NaM.below {w wr W : World} {gS : Nat} {x y q : Bool × Nat × Int} {ao bo qo : Option Addr} {la ca lb cb ql qc : Nat} (m : NaM w wr gS x y ao la ca bo lb cb q qo ql qc) (hb : Below wr.heap.size wr W) : NaM w W gS x y ao la ca bo lb cb q qo ql qc :=
  ⟨m.kg.below hb, blk_below m.kS hb, m.nx.below hb (Nat.le_refl _), m.ny.below hb (Nat.le_refl _), m.ne, m.hb.trans (hb.mono m.hb.size)⟩
theorem NaM.set {w wr : World} {gS : Nat} {x y q p : Bool × Nat × Int} {ao bo qo po : Option Addr} {la ca lb cb ql qc pl pc : Nat} (m : NaM w wr gS x y ao la ca bo lb cb q qo ql qc) (hl : pl = (digits p.2.1).length) (hn : NatV wr (.slice po pl pc) p.2.1) : NaM w (((wr.setCell ⟨w.heap.size, 0, none⟩ (.bool p.1)).setCell ⟨w.heap.size, 1, none⟩ (.slice po pl pc)).setCell ⟨w.heap.size, 2, none⟩ (.int .i64 p.2.2)) gS x y ao la ca bo lb cb p po pl pc :=
  ⟨⟨blk_store3 m.kg.blk, hl, natV_store hn m.kg.blk⟩, blk_store3_ne m.kS m.ne, natV_store m.nx m.kg.blk, natV_store m.ny m.kg.blk, m.ne, ((m.hb.setCell (Nat.le_refl _) _).setCell (Nat.le_refl _) _).setCell (Nat.le_refl _) _⟩

/-- No end of the first i boxes is greater. -/
def GrP (xs : Nat → Nat × Nat) (i : Nat) (q : Bool × Nat × Int) : Prop := (∀ j, j < i → ab (valW (xs j).1) ≤ valQ q ∧ ab (valW (xs j).2) ≤ valQ q) ∧ Bq 952 952 q
/-- .. and of the next one's ends the first j. -/
structure GrQ (xs : Nat → Nat × Nat) (i : Nat) (x y : Bool × Nat × Int) (j : Nat) (q : Bool × Nat × Int) : Prop where
  p : GrP xs i q
  a : 0 < j → ab (valQ x) ≤ valQ q
  b : 1 < j → ab (valQ y) ≤ valQ q
theorem GrQ.step {xs : Nat → Nat × Nat} {i : Nat} {x y : Bool × Nat × Int} {j : Nat} {q v : Bool × Nat × Int} (h : GrQ xs i x y j q) (hv : v = if j = 0 then amtT x else amtT y) (hj : j < 2) (bv : Bq 952 952 v) : (lessT q v = true → GrQ xs i x y (j + 1) v) ∧ (lessT q v = false → GrQ xs i x y (j + 1) q) := by
  have hl := less_val q v
  have hvv : (j = 0 → valQ v = ab (valQ x)) ∧ (j = 1 → valQ v = ab (valQ y)) := by
    constructor
    · intro h0; rw [hv, if_pos h0, val_amt]
    · intro h0; rw [hv, if_neg (by omega), val_amt]
  constructor
  · intro ht
    have hlt := hl.1 ht
    refine ⟨⟨fun k hk => ?_, bv⟩, fun _ => ?_, fun hb => ?_⟩
    · have := h.p.1 k hk; grind
    · by_cases h0 : j = 0
      · rw [hvv.1 h0]; grind
      · have := h.a (by omega); grind
    · rw [hvv.2 (by omega)]; grind
  · intro hf
    have hle : valQ v ≤ valQ q := by
      apply Decidable.byContradiction
      intro hc
      rw [hl.2 (by grind)] at hf
      cases hf
    refine ⟨h.p, fun _ => ?_, fun hb => ?_⟩
    · by_cases h0 : j = 0
      · have := hvv.1 h0; grind
      · exact h.a (by omega)
    · have := hvv.2 (by omega); grind
def shrT (x : Bool × Nat × Int) : Bool × Nat × Int := (x.1, x.2.1, x.2.2 - 30)
theorem val_shr (x : Bool × Nat × Int) : valQ (shrT x) = valQ x / 1073741824 := by
  unfold shrT valQ
  simp only
  have h := pw_add (x.2.2 - 30) 30
  rw [show x.2.2 - 30 + 30 = x.2.2 by omega] at h
  have h2 := pw_nat 30
  rw [show ((30 : Nat) : Int) = 30 by rfl, show (2 ^ 30 : Nat) = 1073741824 by decide] at h2
  rw [h2] at h
  rw [h]
  have : ((1073741824 : Nat) : Rat) = 1073741824 := by rfl
  rw [this]
  grind

set_option maxHeartbeats 16000000 in
set_option maxRecDepth 100000 in
theorem narrow_any (so : Option Addr) (n sc : Nat) (xs : Nat → Nat × Nat) (w : World) (hx : BxV w so n xs) (hn : n ≤ 4) (ix : Ivs n xs) (hN : ∀ G : Rat, (∀ j, j < n → ab (valW (xs j).1) ≤ G ∧ ab (valW (xs j).2) ≤ G) → ∀ i, i < n → valW (xs i).2 - valW (xs i).1 ≤ G / 1073741824) :
    Calls Tryz.prog 140 #[.slice so n sc] w fun e w' => e = .returned (.bool true) ∧ Below w.heap.size w w' := by
  have HX := hid hx
  have IX := hid ix
  have HN := hid hN
  clear hx ix hN
  have HAM : Hid (∀ (s : Bool) (o : Option Addr) (l c : Nat) (e : Int) (w : World), Calls Tryz.prog 169 #[.agg #[.bool s, .slice o l c, .int .i64 e]] w fun ev w' => ev = .returned (.agg #[.bool false, .slice o l c, .int .i64 e]) ∧ Below w.heap.size w w') := amount_any
  go_enter Tryz.func140, Tryz.ntmps140
  go_wp2_with fail
  have K0 : Hid (NBk (w.alloc (Obj.cells #[.bool false, .slice none 0 0, .int .i64 0] 92)) w.heap.size (false, 0, 0) none 0 0) := ⟨blk_new w _, by simp [digits_zero], NatV.zero _⟩
  have B0 : Hid (Below w.heap.size w (w.alloc (Obj.cells #[.bool false, .slice none 0 0, .int .i64 0] 92))) := (Below.refl _ _).alloc (Nat.le_refl _) _
  generalize (w.alloc (Obj.cells #[.bool false, .slice none 0 0, .int .i64 0] 92)) = W1 at *
  go_loopw [4] (fun x wr => ∃ (i : Nat) (q : Bool × Nat × Int) (qo : Option Addr) (ql qc : Nat), i ≤ n ∧ x = .int .i64 (i : Int) ∧ NBk wr w.heap.size q qo ql qc ∧ GrP xs i q ∧ Below w.heap.size w wr) (fun x _ => n - (intOf x).toNat)
  case atStart => exact ⟨0, _, _, _, _, Nat.zero_le _, rfl, K0.out, ⟨fun j hj => by omega, Bq.zero _ _⟩, B0.out⟩
  case round =>
    obtain ⟨i, q, qo, ql, qc, hi1, rfl, hk, hg, hb⟩ := hrel
    have KQ := hid hk
    have GP := hid hg
    have HB := hid hb
    clear hk hg hb K0 B0
    by_cases hin : i < n
    · obtain ⟨g, off, rfl, hg, hc⟩ := HX.out.resolve_left (by omega)
      obtain ⟨c1, c2⟩ := hc i hin
      rw [← HB.out.cell (by exact hg)] at c1 c2
      have hgl : g < wr.heap.size := Nat.lt_of_lt_of_le hg HB.out.size
      have iv := IX.out i hin
      have MG := hid (made_gives (xs i).1 (xs i).2 iv.lt1 iv.lt2)
      rw [make_iv iv] at MG
      simp only at MG
      have P1 := hid (pl_of iv.p1)
      have P2 := hid (pl_of iv.p2)
      have GN : Hid (∀ q, GrQ xs i (plT (xs i).1) (plT (xs i).2) 2 q → GrP xs (i + 1) q) := fun q h => ⟨fun j hj => by
        by_cases hji : j = i
        · subst hji; exact ⟨h.a (by omega), h.b (by omega)⟩
        · exact h.p.1 j (by omega), h.p.2⟩
      have GQ0 : Hid (GrQ xs i (plT (xs i).1) (plT (xs i).2) 0 q) := ⟨GP.out, fun h => by omega, fun h => by omega⟩
      generalize plT (xs i).1 = x at *
      generalize plT (xs i).2 = y at *
      generalize (xs i).1 = y1 at c1 MG
      generalize (xs i).2 = y2 at c2 MG
      clear hc hg iv GP
      go_wp2_with fail
      refine Calls.mono (MG.out _) ?_
      rintro e w1 ⟨ao, la, ca, bo, lb, cb, rfl, hla, hlb, hna, hnb, hbk⟩
      have K1 := blk_new w1 (Obj.cells #[.bool x.1, .slice ao la ca, .int .i64 x.2.2, .bool y.1, .slice bo lb cb, .int .i64 y.2.2] 98)
      have ha : Below w1.heap.size w1 (w1.alloc (Obj.cells #[.bool x.1, .slice ao la ca, .int .i64 x.2.2, .bool y.1, .slice bo lb cb, .int .i64 y.2.2] 98)) := (Below.refl _ _).alloc (Nat.le_refl _) _
      have N1 := hid (hna.below ha (Nat.le_refl _))
      have N2 := hid (hnb.below ha (Nat.le_refl _))
      have L1 := hid hla
      have L2 := hid hlb
      have KQ2 := hid ((KQ.out.below hbk).below ha)
      have hb1 := HB.out.trans (hbk.mono HB.out.size)
      have HB2 := hid (hb1.trans (ha.mono hb1.size))
      clear hla hlb hna hnb hbk MG HB hb1 ha c1 c2 KQ hgl
      go_wp2_with fail
      generalize (w1.alloc (Obj.cells #[.bool x.1, .slice ao la ca, .int .i64 x.2.2, .bool y.1, .slice bo lb cb, .int .i64 y.2.2] 98)) = W2 at *
      generalize w1.heap.size = gI at *
      have KI := hid K1
      clear K1
      go_cut [32, 33, 34] (fun s32 s33 s34 wc => ∃ gS, s32 = .slice (some ⟨gS, 0, none⟩) 2 2 ∧ s33 = .int .i64 2 ∧ s34 = .int .i64 0 ∧ wc.heap[gS]? = some (.cells #[.bool false, .slice ao la ca, .int .i64 x.2.2, .bool false, .slice bo lb cb, .int .i64 y.2.2] 92 (0, 0)) ∧ W2.heap.size ≤ gS ∧ Below W2.heap.size W2 wc)
      case first =>
        have iN : Hid (Below W2.heap.size W2 W2.drew) := (Below.refl _ _).drew
        have KD : Hid (W2.drew.heap[gI]? = some (.cells #[.bool x.1, .slice ao la ca, .int .i64 x.2.2, .bool y.1, .slice bo lb cb, .int .i64 y.2.2] 98 (0, 0))) := KI.out
        have hci : Hid (∀ W : World, W.heap[gI]? = some (.cells #[.bool x.1, .slice ao la ca, .int .i64 x.2.2, .bool y.1, .slice bo lb cb, .int .i64 y.2.2] 98 (0, 0)) → W.cell? ⟨gI, 0, none⟩ = some (.bool x.1) ∧ W.cell? ⟨gI, 1, none⟩ = some (.slice ao la ca) ∧ W.cell? ⟨gI, 2, none⟩ = some (.int .i64 x.2.2) ∧ W.cell? ⟨gI, 3, none⟩ = some (.bool y.1) ∧ W.cell? ⟨gI, 4, none⟩ = some (.slice bo lb cb) ∧ W.cell? ⟨gI, 5, none⟩ = some (.int .i64 y.2.2)) := fun W h => by
          obtain ⟨a0, a1, a2, a3, a4, a5, -⟩ := blk6 h
          exact ⟨a0, a1, a2, a3, a4, a5⟩
        obtain ⟨a0, a1, a2, a3, a4, a5, -⟩ := blk6 KI.out
        have hlt := lt_of_row KI.out
        go_region_held3 (fun W => W.cell? ⟨gI, 0, none⟩ = some (.bool x.1) ∧ W.cell? ⟨gI, 1, none⟩ = some (.slice ao la ca) ∧ W.cell? ⟨gI, 2, none⟩ = some (.int .i64 x.2.2) ∧ W.cell? ⟨gI, 3, none⟩ = some (.bool y.1) ∧ W.cell? ⟨gI, 4, none⟩ = some (.slice bo lb cb) ∧ W.cell? ⟨gI, 5, none⟩ = some (.int .i64 y.2.2)) (first | with_reducible exact hci.out _ KD.out | exact hci.out _ (blk_old KD.out _))
          (first
            | (go_at_call 169; with_reducible (refine Calls.mono (HAM.out _ _ _ _ _ _) ?_); rintro e v0 ⟨rfl, hbk⟩
               have KD := hid (blk_below KD.out hbk)
               have iN := hid (iN.out.trans (hbk.mono iN.out.size))
               clear hbk))
        all_goals (go_wp2_with fail; go_meet)
        all_goals exact ⟨_, rfl, rfl, rfl, blk_new _ _, iN.out.size, iN.out.alloc iN.out.size _⟩
      case rest =>
        obtain ⟨gS, rfl, rfl, rfl, hS, hge, hbc⟩ := hcut
        have NM : Hid (NaM w wc gS x y ao la ca bo lb cb q qo ql qc) := ⟨KQ2.out.below hbc, hS, N1.out.below hbc (Nat.le_refl _), N2.out.below hbc (Nat.le_refl _), by have := lt_of_row KQ2.out.blk; omega, HB2.out.trans (hbc.mono HB2.out.size)⟩
        clear hS hge hbc KQ2 N1 N2 HB2 KI HX IX HN HAM
        go_wp2_with fail
        go_loopw [34] (fun x' wy => ∃ (j : Nat) (q : Bool × Nat × Int) (qo : Option Addr) (ql qc : Nat), j ≤ 2 ∧ x' = .int .i64 (j : Int) ∧ NaM w wy gS x y ao la ca bo lb cb q qo ql qc ∧ GrQ xs i x y j q) (fun x' _ => 2 - (intOf x').toNat)
        case atStart => exact ⟨0, _, _, _, _, Nat.zero_le _, rfl, NM.out, GQ0.out⟩
        case round =>
          obtain ⟨j, q, qo, ql, qc, hj1, rfl, hm, hq⟩ := hrel
          have NM := hid hm
          have GQ := hid hq
          clear hm hq GQ0
          by_cases hj : j < 2
          · have EL : ∃ (v : Bool × Nat × Int) (vo : Option Addr) (vl vc : Nat), wr.cell? ⟨gS, j * 3, none⟩ = some (.bool v.1) ∧ wr.cell? ⟨gS, j * 3 + 1, none⟩ = some (.slice vo vl vc) ∧ wr.cell? ⟨gS, j * 3 + 2, none⟩ = some (.int .i64 v.2.2) ∧ vl = (digits v.2.1).length ∧ NatV wr (.slice vo vl vc) v.2.1 ∧ Bq 952 952 v ∧ v = if j = 0 then amtT x else amtT y := by
              obtain ⟨a0, a1, a2, a3, a4, a5, -⟩ := blk6 NM.out.kS
              rcases (show j = 0 ∨ j = 1 by omega) with rfl | rfl
              · exact ⟨amtT x, ao, la, ca, a0, a1, a2, L1.out, NM.out.nx, P1.out.bq.amt, by rw [if_pos rfl]⟩
              · exact ⟨amtT y, bo, lb, cb, a3, a4, a5, L2.out, NM.out.ny, P2.out.bq.amt, by rw [if_neg (by omega)]⟩
            obtain ⟨v, vo, vl, vc, e0, e1, e2, hvl, hvn, hvb, hvv⟩ := EL
            have GS := hid (GQ.out.step hvv hj hvb)
            have hlS := lt_of_row NM.out.kS
            have ha : Below wr.heap.size wr (wr.alloc (Obj.cells #[.bool v.1, .slice vo vl vc, .int .i64 v.2.2] 92)) := (Below.refl _ _).alloc (Nat.le_refl _) _
            have K7 := blk_new wr (Obj.cells #[.bool v.1, .slice vo vl vc, .int .i64 v.2.2] 92)
            have NM2 := hid (NM.out.below ha)
            have NV := hid (hvn.below ha (Nat.le_refl _))
            have LV := hid hvl
            have HLS := hid (less_g (GQ.out.p.2.sm (by omega) (by omega)) (hvb.sm (by omega) (by omega)) (wr.alloc (Obj.cells #[.bool v.1, .slice vo vl vc, .int .i64 v.2.2] 92)) qo vo ql qc vl vc NM2.out.kg.len NM2.out.kg.nat LV.out NV.out)
            obtain ⟨q0, q1, q2, -, -, -⟩ := blk3 NM.out.kg.blk
            have hlq := lt_of_row NM.out.kg.blk
            clear hvl hvn hvb hvv GQ ha NM
            go_wp2_with fail
            generalize (wr.alloc (Obj.cells #[.bool v.1, .slice vo vl vc, .int .i64 v.2.2] 92)) = W5 at *
            generalize wr.heap.size = g7 at *
            refine Calls.mono HLS.out ?_
            rintro e w6 ⟨rfl, hb6⟩
            have NM6 := hid (NM2.out.below hb6)
            have NV6 := hid (NV.out.below hb6 (Nat.le_refl _))
            have K8 := hid (blk_below K7 hb6)
            clear hb6 NM2 NV K7 HLS q0 q1 q2 hlq e0 e1 e2 hlS
            generalize lessT q v = r1 at *
            cases r1 with
            | true =>
              have NM7 := hid (NM6.out.set LV.out NV6.out)
              have G2 := hid (GS.out.1 rfl)
              obtain ⟨v0, v1, v2, -, -, -⟩ := blk3 K8.out
              obtain ⟨q0, q1, q2, f0, f1, f2⟩ := blk3 NM6.out.kg.blk
              have hlv := lt_of_row K8.out
              have hlq := lt_of_row NM6.out.kg.blk
              clear GS NM6 NV6 K8
              go_wp2
              go_roundw
              case rel => first | exact ⟨j + 1, _, _, _, _, by omega, by go_num, NM7.out, G2.out⟩ | ((repeat apply Exists.intro); exact ⟨⟨j + 1, _, _, _, _, by omega, by go_num, NM7.out, G2.out⟩, rfl⟩)
              case measure => simp [intOf]; omega
            | false =>
              have G2 := hid (GS.out.2 rfl)
              clear GS NV6 K8
              go_wp2
              go_roundw
              case rel => first | exact ⟨j + 1, _, _, _, _, by omega, by go_num, NM6.out, G2.out⟩ | ((repeat apply Exists.intro); exact ⟨⟨j + 1, _, _, _, _, by omega, by go_num, NM6.out, G2.out⟩, rfl⟩)
              case measure => simp [intOf]; omega
          · obtain rfl : j = 2 := by omega
            have G3 := hid (GN.out q GQ.out)
            have KN := hid NM.out.kg
            have BN := hid NM.out.hb
            clear NM GQ GN
            go_wp2
            go_roundw
            case rel => first | exact ⟨i + 1, _, _, _, _, by omega, by go_num, KN.out, G3.out, BN.out⟩ | ((repeat apply Exists.intro); exact ⟨⟨i + 1, _, _, _, _, by omega, by go_num, KN.out, G3.out, BN.out⟩, rfl⟩)
            case measure => simp [intOf]; omega
    · obtain rfl : n = i := by omega
      have HW := hid (HN.out (valQ q) GP.out.1)
      have q1 := GP.out.2.l
      have q2 := GP.out.2.u
      have hw4 : IntKind.i64.wrap (q.2.2 - 30) = q.2.2 - 30 := by rw [IntKind.wrap_i64]; omega
      have SQ : Hid (Sm (shrT q)) := by
        have := GP.out.2.sm (by omega) (by omega)
        exact ⟨this.b, by unfold shrT; simp only; omega, by unfold shrT; simp only; omega⟩
      have KS : Hid (NBk (wr.setCell ⟨w.heap.size, 2, none⟩ (.int .i64 (q.2.2 - 30))) w.heap.size (shrT q) qo ql qc) := ⟨blk_setE KQ.out.blk, KQ.out.len, natV_setE KQ.out.nat KQ.out.blk⟩
      have BS : Hid (Below w.heap.size w (wr.setCell ⟨w.heap.size, 2, none⟩ (.int .i64 (q.2.2 - 30)))) := HB.out.setCell (Nat.le_refl _) _
      have VS := hid (val_shr q)
      obtain ⟨c0, c1, c2, f0, f1, f2⟩ := blk3 KQ.out.blk
      have hlt := lt_of_row KQ.out.blk
      clear GP HB KQ HN HAM
      go_wp2_with fail
      generalize (wr.setCell ⟨w.heap.size, 2, none⟩ (.int .i64 (q.2.2 - 30))) = W8 at *
      generalize shrT q = q30 at *
      clear c0 c1 c2 f0 f1 f2 hlt hw4 q1 q2
      go_loopw [9] (fun x wy => ∃ k : Nat, k ≤ n ∧ x = .int .i64 (k : Int) ∧ Below W8.heap.size W8 wy) (fun x _ => n - (intOf x).toNat)
      case atStart => exact ⟨0, Nat.zero_le _, rfl, Below.refl _ _⟩
      case round =>
        obtain ⟨k, hk1, rfl, hb⟩ := hrel
        have HB := hid hb
        clear hb
        by_cases hk : k < n
        · obtain ⟨g, off, rfl, hg, hc⟩ := HX.out.resolve_left (by omega)
          obtain ⟨c1, c2⟩ := hc k hk
          have hbw := BS.out.trans (HB.out.mono BS.out.size)
          rw [← hbw.cell (by exact hg)] at c1 c2
          have hgl : g < wr.heap.size := Nat.lt_of_lt_of_le hg hbw.size
          have iv := IX.out k hk
          have MG := hid (made_gives (xs k).1 (xs k).2 iv.lt1 iv.lt2)
          rw [make_iv iv] at MG
          simp only at MG
          have P1 := hid (pl_of iv.p1)
          have P2 := hid (pl_of iv.p2)
          have WD : Hid (valQ (plT (xs k).2) - valQ (plT (xs k).1) ≤ valQ q30) := by
            show _ ≤ _
            rw [VS.out]
            exact HW.out k hk
          have KQ := hid (KS.out.below HB.out)
          have HBW := hid hbw
          generalize plT (xs k).1 = x at *
          generalize plT (xs k).2 = y at *
          generalize (xs k).1 = y1 at *
          generalize (xs k).2 = y2 at *
          have LF : Hid (lessT q30 (sumT y (negT x)) = false) := by
            show _ = _
            cases h : lessT q30 (sumT y (negT x)) with
            | false => rfl
            | true =>
              have h1 := (less_val _ _).1 h
              rw [val_sum, val_neg] at h1
              have h2 := WD.out
              grind
          clear hc hg iv hbw HW WD IX HX BS
          go_wp2_with fail
          refine Calls.mono (MG.out _) ?_
          rintro e w1 ⟨ao, la, ca, bo, lb, cb, rfl, hla, hlb, hna, hnb, hbk⟩
          have ha : Below w1.heap.size w1 (w1.alloc (Obj.cells #[.bool x.1, .slice ao la ca, .int .i64 x.2.2, .bool y.1, .slice bo lb cb, .int .i64 y.2.2] 98)) := (Below.refl _ _).alloc (Nat.le_refl _) _
          have hB1 : Below wr.heap.size wr (w1.alloc (Obj.cells #[.bool x.1, .slice ao la ca, .int .i64 x.2.2, .bool y.1, .slice bo lb cb, .int .i64 y.2.2] 98)) := hbk.trans (ha.mono hbk.size)
          have K1 := blk_new w1 (Obj.cells #[.bool x.1, .slice ao la ca, .int .i64 x.2.2, .bool y.1, .slice bo lb cb, .int .i64 y.2.2] 98)
          have N1 := hid (hna.below ha (Nat.le_refl _))
          have N2 := hid (hnb.below ha (Nat.le_refl _))
          have L1 := hid hla
          have L2 := hid hlb
          have HB1 := hid hB1
          clear hla hlb hna hnb hbk MG hB1 ha c1 c2 hgl
          go_wp2_with fail
          generalize (w1.alloc (Obj.cells #[.bool x.1, .slice ao la ca, .int .i64 x.2.2, .bool y.1, .slice bo lb cb, .int .i64 y.2.2] 98)) = W2 at *
          generalize w1.heap.size = gI at *
          refine Calls.mono (negated_g x W2 ao la ca L1.out N1.out) ?_
          rintro e w3 ⟨no, nl, nc, rfl, hnl, hnn, hb3⟩
          have K3 := hid (blk_below K1 hb3)
          have HB3 := hid (HB1.out.trans (hb3.mono HB1.out.size))
          have N3 := hid hnn
          have L3 := hid hnl
          have N4 := hid (N2.out.below hb3 (Nat.le_refl _))
          clear hb3 hnn hnl K1 HB1 N1 N2 L1
          obtain ⟨-, -, -, a3, a4, a5, -, -, -, -, -, -⟩ := blk6 K3.out
          have hlI := lt_of_row K3.out
          have ha : Below w3.heap.size w3 (w3.alloc (Obj.cells #[.bool (negS x.1 x.2.1), .slice no nl nc, .int .i64 x.2.2] 92)) := (Below.refl _ _).alloc (Nat.le_refl _) _
          have HSM := hid (sum_g (x := y) (y := negT x) P2.out.sm P1.out.neg.sm (w3.alloc (Obj.cells #[.bool (negS x.1 x.2.1), .slice no nl nc, .int .i64 x.2.2] 92)) bo no lb cb nl nc L2.out (N4.out.below ha (Nat.le_refl _)) L3.out (N3.out.below ha (Nat.le_refl _)))
          have HB4 := hid (HB3.out.trans (ha.mono HB3.out.size))
          have SS := hid (P2.out.sum P1.out.neg)
          clear ha N3 N4 L2 L3 HB3
          go_wp2_with fail
          generalize (w3.alloc (Obj.cells #[.bool (negS x.1 x.2.1), .slice no nl nc, .int .i64 x.2.2] 92)) = W4 at *
          refine Calls.mono HSM.out ?_
          rintro e w5 ⟨vo, vl, vc, rfl, hvl, hvn, hb5⟩
          generalize sumT y (negT x) = st at *
          have HB5 := hid (HB4.out.trans (hb5.mono HB4.out.size))
          have ha : Below w5.heap.size w5 (w5.alloc (Obj.cells #[.bool st.1, .slice vo vl vc, .int .i64 st.2.2] 92)) := (Below.refl _ _).alloc (Nat.le_refl _) _
          have KQ5 := hid (KQ.out.below HB5.out)
          have KQ6 := hid (KQ5.out.below ha)
          have HLS := hid (less_g SQ.out SS.out (w5.alloc (Obj.cells #[.bool st.1, .slice vo vl vc, .int .i64 st.2.2] 92)) qo vo ql qc vl vc KQ6.out.len KQ6.out.nat hvl (hvn.below ha (Nat.le_refl _)))
          rw [LF.out] at HLS
          obtain ⟨q0, q1, q2, -, -, -⟩ := blk3 KQ5.out.blk
          have hlq := lt_of_row KQ5.out.blk
          have HB6 := hid (HB5.out.trans (ha.mono HB5.out.size))
          clear hvl hvn hb5 ha HSM KQ K3 HB4 a3 a4 a5 KQ5 KQ6 HB5
          go_wp2_with fail
          generalize (w5.alloc (Obj.cells #[.bool st.1, .slice vo vl vc, .int .i64 st.2.2] 92)) = W6 at *
          refine Calls.mono HLS.out ?_
          rintro e w7 ⟨rfl, hb7⟩
          have hB7 := HB6.out.trans (hb7.mono HB6.out.size)
          have HB7 := hid (HB.out.trans (hB7.mono HB.out.size))
          clear hb7 hB7 HB6 HLS q0 q1 q2 hlq
          go_wp2
          go_roundw
          case rel => exact ⟨k + 1, by omega, by go_num, HB7.out⟩
          case measure => simp [intOf]; omega
        · have HBF := hid (BS.out.trans (HB.out.mono BS.out.size))
          go_wp2
          go_ret
          exact ⟨rfl, HBF.out⟩
end Go.Proofs.YtonhpkigoplmaaaGreatDoor
namespace Go.Proofs.YtonhpkigoplmaaaGreatDoor
open Go.RowKit Go.Extern Ieee

/-- Both ends of each box are fair. -/
def RngP (n : Nat) (xs : Nat → Nat × Nat) : Prop := ∀ i, i < n → fairT (plT (cB (xs i)).1) = true ∧ fairT (plT (cB (xs i)).2) = true
def Wds (n : Nat) (xs : Nat → Nat × Nat) : Prop := ∀ i, i < n → (xs i).1 < 18446744073709551616 ∧ (xs i).2 < 18446744073709551616

--@def IV(X,Y) #[.bool X.1, .slice ao la ca, .int .i64 X.2.2, .bool Y.1, .slice bo lb cb, .int .i64 Y.2.2]
set_option maxHeartbeats 4000000 in
set_option maxRecDepth 100000 in
theorem ranged_any (so : Option Addr) (n sc : Nat) (xs : Nat → Nat × Nat) (w : World) (h : BxV w so n xs) (hn : n ≤ 100) (hw : Wds n xs) :
    Calls Tryz.prog 136 #[.slice so n sc] w fun e w' => ∃ r, e = .returned (.bool r) ∧ (r = true ↔ RngP n xs) ∧ Below w.heap.size w w' := by
  have HW := hid h
  have HD := hid hw
  clear h hw
  go_enter Tryz.func136, Tryz.ntmps136
  go_wp2
  go_loopw [3] (fun x wr => ∃ i : Nat, i ≤ n ∧ x = .int .i64 (i : Int) ∧ RngP i xs ∧ Below w.heap.size w wr) (fun x _ => n - (intOf x).toNat)
  case atStart => exact ⟨0, Nat.zero_le _, rfl, fun i hi => by omega, Below.refl _ _⟩
  case round =>
    obtain ⟨i, hi1, rfl, hr, hb⟩ := hrel
    have HR := hid hr
    have HB := hid hb
    clear hr hb
    by_cases hin : i < n
    · obtain ⟨g, off, rfl, hg, hc⟩ := HW.out.resolve_left (by omega)
      obtain ⟨c1, c2⟩ := hc i hin
      rw [← HB.out.cell (by exact hg)] at c1 c2
      have hwi := HD.out i hin
      have HM := hid (made_gives (xs i).1 (xs i).2 hwi.1 hwi.2)
      have iv := made_iv (xs i).1 (xs i).2 hwi.1 hwi.2
      have S1 := hid (pl_of iv.p1).sm
      have S2 := hid (pl_of iv.p2).sm
      have HRI : Hid (RngP (i + 1) xs ↔ (fairT (plT (makeN (xs i).1 (xs i).2).1) = true ∧ fairT (plT (makeN (xs i).1 (xs i).2).2.1) = true)) := by
        constructor
        · intro hp; exact hp i (by omega)
        · intro hp j hj
          by_cases hji : j = i
          · subst hji; exact hp
          · exact HR.out j (by omega)
      have HRN : Hid (RngP n xs → RngP (i + 1) xs) := fun hp j hj => hp j (by omega)
      generalize plT (makeN (xs i).1 (xs i).2).1 = x at *
      generalize plT (makeN (xs i).1 (xs i).2).2.1 = y at *
      generalize (xs i).1 = y1 at *
      generalize (xs i).2 = y2 at *
      clear hc hg HD HR hwi iv
      go_wp2_with fail
      refine Calls.mono (HM.out _) ?_
      rintro e w1 ⟨ao, la, ca, bo, lb, cb, rfl, hla, hlb, hna, hnb, hbk⟩
      have HB1 := hid (HB.out.trans (hbk.mono HB.out.size))
      have K0 := blk_new w1 (Obj.cells #[.bool x.1, .slice ao la ca, .int .i64 x.2.2, .bool y.1, .slice bo lb cb, .int .i64 y.2.2] 98)
      have ha : Below w1.heap.size w1 (w1.alloc (Obj.cells #[.bool x.1, .slice ao la ca, .int .i64 x.2.2, .bool y.1, .slice bo lb cb, .int .i64 y.2.2] 98)) := (Below.refl _ _).alloc (Nat.le_refl _) _
      have N1 := hid (hna.below ha (Nat.le_refl _))
      have N2 := hid (hnb.below ha (Nat.le_refl _))
      have L1 := hid hla
      have L2 := hid hlb
      have HB2 := hid (HB1.out.trans (ha.mono HB1.out.size))
      clear hla hlb hna hnb hbk HM HB HB1 ha c1 c2
      go_wp2_with fail
      generalize (w1.alloc (Obj.cells #[.bool x.1, .slice ao la ca, .int .i64 x.2.2, .bool y.1, .slice bo lb cb, .int .i64 y.2.2] 98)) = W2 at *
      refine Calls.mono (fair_any x ao la ca W2 S1.out L1.out N1.out) ?_
      rintro e w3 ⟨rfl, hb3⟩
      have K3 := hid (blk_below K0 hb3)
      have N3 := hid (N2.out.below hb3 (Nat.le_refl _))
      have HB3 := hid (HB2.out.trans (hb3.mono HB2.out.size))
      clear hb3 N1 N2 K0 HB2
      obtain ⟨-, -, -, k3, k4, k5, -, -, -, -, -, -⟩ := blk6 K3.out
      have hlt := lt_of_row K3.out
      go_wp2_with fail
      refine Calls.mono (fair_any y bo lb cb w3 S2.out L2.out N3.out) ?_
      rintro e w4 ⟨rfl, hb4⟩
      have HB4 := hid (HB3.out.trans (hb4.mono HB3.out.size))
      clear hb4 HB3 N3 K3 k3 k4 k5
      generalize fairT x = r1 at *
      generalize fairT y = r2 at *
      cases r1 with
      | false =>
        have HF : Hid (false = true ↔ RngP n xs) := ⟨fun h => (by cases h), fun hp => by have := HRI.out.1 (HRN.out hp); exact absurd this.1 (by simp)⟩
        go_wp2
        go_ret
        exact ⟨false, rfl, HF.out, HB4.out⟩
      | true =>
        cases r2 with
        | false =>
          have HF : Hid (false = true ↔ RngP n xs) := ⟨fun h => (by cases h), fun hp => by have := HRI.out.1 (HRN.out hp); exact absurd this.2 (by simp)⟩
          go_wp2
          go_ret
          exact ⟨false, rfl, HF.out, HB4.out⟩
        | true =>
          have HR2 : Hid (RngP (i + 1) xs) := HRI.out.2 ⟨rfl, rfl⟩
          go_wp2
          go_roundw
          case rel => exact ⟨i + 1, by omega, by go_num, HR2.out, HB4.out⟩
          case measure => simp [intOf]; omega
    · obtain rfl : n = i := by omega
      go_wp2
      go_ret
      exact ⟨true, rfl, ⟨fun _ => HR.out, fun _ => rfl⟩, HB.out⟩

set_option maxHeartbeats 4000000 in
set_option maxRecDepth 100000 in
theorem normal_any (so : Option Addr) (n sc : Nat) (xs : Nat → Nat × Nat) (w : World) (h : BxV w so n xs) (hn : n ≤ 100) (hw : Wds n xs) :
    Calls Tryz.prog 137 #[.slice so n sc] w fun e w' => ∃ bo bc, e = .returned (.slice bo n bc) ∧ BxV w' bo n (fun i => cB (xs i)) ∧ Below w.heap.size w w' := by
  obtain ⟨i0, hI0, hz0, hz1, hz2⟩ := info_parts infoBox
  have HW := hid h
  have HD := hid hw
  clear h hw
  go_enter Tryz.func137, Tryz.ntmps137
  go_wp2
  go_loopw [3, 4] (fun v x wr => ∃ i : Nat, i ≤ n ∧ x = .int .i64 (i : Int) ∧ wr.ownsRow w.heap.size 28 2 v i (bxs (fun i => cB (xs i)) i) ∧ Below w.heap.size w wr) (fun _ x _ => n - (intOf x).toNat)
  case atStart => exact ⟨0, Nat.zero_le _, rfl, World.ownsRow_nil _ _ _ _, Below.refl _ _⟩
  case round =>
    obtain ⟨i, hi1, rfl, hown, hb⟩ := hrel
    have HO := hid hown
    have HB := hid hb
    clear hown hb
    by_cases hin : i < n
    · obtain ⟨g, off, rfl, hg, hc⟩ := HW.out.resolve_left (by omega)
      obtain ⟨c1, c2⟩ := hc i hin
      rw [← HB.out.cell (by exact hg)] at c1 c2
      have hwi := HD.out i hin
      have HX : Hid (bxs (fun i => cB (xs i)) (i + 1) = bxs (fun i => cB (xs i)) i ++ [.int .u64 ((makeN (xs i).1 (xs i).2).1 : Int), .int .u64 ((makeN (xs i).1 (xs i).2).2.1 : Int)]) := bxs_push _ i
      have HM : Hid (∀ W, Calls Tryz.prog 27 #[.agg #[.int .u64 ((xs i).1 : Int), .int .u64 ((xs i).2 : Int)]] W fun e w' => e = .returned (.tuple #[.agg #[.int .u64 ((makeN (xs i).1 (xs i).2).1 : Int), .int .u64 ((makeN (xs i).1 (xs i).2).2.1 : Int)], .int .i64 ((makeN (xs i).1 (xs i).2).2.2 : Int)]) ∧ Below W.heap.size W w') := fun W => refMake_any _ _ W hwi.1 hwi.2
      generalize (makeN (xs i).1 (xs i).2).1 = z1 at *
      generalize (makeN (xs i).1 (xs i).2).2.1 = z2 at *
      generalize (makeN (xs i).1 (xs i).2).2.2 = z3 at *
      generalize (xs i).1 = y1 at *
      generalize (xs i).2 = y2 at *
      clear hc hg HW HD hwi
      go_wp2_with fail
      refine Calls.mono (HM.out _) ?_
      rintro e w1 ⟨rfl, hb1⟩
      have ha : Below w1.heap.size w1 (w1.alloc (Obj.cells #[.int .u64 (z1 : Int), .int .u64 (z2 : Int)] 28)) := (Below.refl _ _).alloc (Nat.le_refl _) _
      have HO := hid (ownsRow_mono (ownsRow_mono HO.out hb1 (Nat.le_refl _)) ha (Nat.le_refl _))
      have hbb := HB.out.trans (hb1.mono HB.out.size)
      have HB := hid (hbb.trans (ha.mono hbb.size))
      have hsz := HB.out.size
      have K0 := blk_new w1 (Obj.cells #[.int .u64 (z1 : Int), .int .u64 (z2 : Int)] 28)
      clear hb1 c1 c2 ha hbb HM
      go_upto_region 6 with fail
      generalize (w1.alloc (Obj.cells #[.int .u64 (z1 : Int), .int .u64 (z2 : Int)] 28)) = W2 at *
      obtain ⟨x0, x1, -, -⟩ := blk2 K0
      have hlt := lt_of_row K0
      go_wp2_with (first
        | (at_builtin; refine wpList_append_own _ rfl _ _ 61 rfl w.heap.size 28 i0 (.agg #[.int .u64 0, .int .u64 0]) 2 16 Tryz.underlying61 hI0 hz0 hz1 hz2 rfl (by decide) _ _ _ rfl (HO.out.alloc _) ⟨W2.heap.size, 0, none⟩ 1 1 [.int .u64 (z1 : Int), .int .u64 (z2 : Int)] rfl rfl two_cells ?c2 ?c3 ?c4 ?c5 ?_)
        | go_in)
      case c2 => intro u hu; simp at hu; rcases hu with rfl | rfl <;> rfl
      case c3 => unfold maxLen; omega
      case c4 => omega
      case c5 => first | omega | (simp at hsz ⊢; omega)
      · intro v' w2 hown' hgrow _
        have HB2 := hid (own_push HO.out HB.out (Nat.le_refl _) hgrow)
        rw [← HX.out] at hown'
        have HO2 := hid hown'
        clear hown' hgrow HO HB
        go_wp2
        go_roundw
        case rel => exact ⟨i + 1, by omega, by go_num, HO2.out, HB2.out⟩
        case measure => simp [intOf]; omega
    · obtain rfl : n = i := by omega
      obtain ⟨bo, bc, rfl, hc, hv⟩ := BxV.of_bxs HO.out
      have HV := hid hv
      clear HO hc hv
      go_wp2
      go_ret
      exact ⟨bo, bc, rfl, HV.out, HB.out⟩
end Go.Proofs.YtonhpkigoplmaaaGreatDoor
namespace Go.Proofs.YtonhpkigoplmaaaGreatDoor
open Go.RowKit Go.Extern Ieee

theorem Rws.below {b bl : Nat} {W W' : World} {v : Value} {m : Nat} {hv : Nat → Value} {ln : Nat → Nat} {R : Nat → Nat → Nat × Nat} (s : Rws b bl W v m hv ln R) (hb : Below W.heap.size W W') : Rws b bl W' v m hv ln R :=
  ⟨ownsRow_mono s.own hb (Nat.le_refl _), fun j hj => ownsRow_mono (s.row j hj) hb (Nat.le_refl _), fun l hl => ownsRow_mono (s.last l hl) hb (Nat.le_refl _), s.low, s.ge, Nat.le_trans s.le hb.size⟩

theorem own_set {W : World} {b g c l : Nat} {T : TypeId} {hv : Nat → Value} {u : Value} (h : W.ownsRow b T 1 (.slice (some ⟨g, 0, none⟩) (l + 1) c) (l + 1) ((List.range (l + 1)).map hv)) : (W.setCell ⟨g, l, none⟩ u).ownsRow b T 1 (.slice (some ⟨g, 0, none⟩) (l + 1) c) (l + 1) ((List.range (l + 1)).map (upd hv l u)) := by
  obtain ⟨-, ⟨e, -⟩ | ⟨g', c', cur, e, hb, h1, h2, h3, h4, h5⟩⟩ := h
  · cases e
  · cases e
    refine ⟨by simp, .inr ⟨g, c, _, rfl, hb, blk_set_cur h1 l u, h2, h3, by simpa using h4, ?_⟩⟩
    rw [Array.toList_setIfInBounds, List.take_set, h5]
    refine List.ext_getElem? fun i => ?_
    rw [List.getElem?_set]
    by_cases hi : l = i
    · subst hi
      simp [upd_same]
    · rw [if_neg hi]
      by_cases hl : i < l + 1
      · rw [List.getElem?_map, List.getElem?_map, List.getElem?_range hl]
        simp [upd_ne (show i ≠ l by omega)]
      · rw [List.getElem?_eq_none (by simp; omega), List.getElem?_eq_none (by simp; omega)]

theorem Rws.push {b bl : Nat} {W W1 : World} {u' : Value} {l g c : Nat} {hv : Nat → Value} {ln : Nat → Nat} {R : Nat → Nat → Nat × Nat} {p : Nat × Nat} (s : Rws b bl W (.slice (some ⟨g, 0, none⟩) (l + 1) c) (l + 1) hv ln R) (ho : W1.ownsRow bl 67 2 u' (ln l + 1) (ivs (R l) (ln l) ++ [.float .f64 p.1, .float .f64 p.2])) (hg : W.grownBy W1 (hv l).ownBlock) :
    Rws b bl (W1.setCell ⟨g, l, none⟩ u') (.slice (some ⟨g, 0, none⟩) (l + 1) c) (l + 1) (upd hv l u') (upd ln l (ln l + 1)) (upd R l (upd (R l) (ln l) p)) := by
  have hT : (67 : TypeId) ≠ 86 := by decide
  have own1 := own_grown s.own hg fun k hk hk' => own_ne s.own (s.row l (by omega)) hT.symm hk hk'
  have hgb : (Value.slice (some ⟨g, 0, none⟩) (l + 1) c).ownBlock = some g := by simp [Value.ownBlock]
  have hset := grown_set W1 g l u'
  have e1 : ivs (upd (R l) (ln l) p) (ln l + 1) = ivs (R l) (ln l) ++ [.float .f64 p.1, .float .f64 p.2] := by
    rw [ivs_push, upd_same]
    congr 1
    exact ivs_congr fun j hj => upd_ne (by omega)
  have hlast : (W1.setCell ⟨g, l, none⟩ u').ownsRow bl 67 2 u' (ln l + 1) (ivs (upd (R l) (ln l) p) (ln l + 1)) := by
    rw [e1]
    exact own_grown ho hset fun k hk hk' => own_ne own1 ho hT.symm hgb (by rw [hk]; exact hk'.symm)
  refine ⟨own_set own1, fun j hj => ?_, fun l' hl' => ?_, fun i k hi hk => ?_, s.ge, Nat.le_trans s.le (Nat.le_trans hg.size hset.size)⟩
  · by_cases hjl : j = l
    · subst hjl
      rw [upd_same, upd_same, upd_same]
      exact ownsRow_mono hlast (Below.refl _ _) s.ge
    · rw [upd_ne hjl, upd_ne hjl, upd_ne hjl]
      have h1 := own_grown (s.row j hj) hg fun k hk hk' => by
        have a := s.low j k (by omega) hk
        have b := (own_block (s.last l rfl) hk').1
        omega
      exact own_grown h1 hset fun k hk hk' => own_ne own1 h1 hT.symm hgb (by rw [hk]; exact hk'.symm)
  · obtain rfl : l' = l := by omega
    rw [upd_same, upd_same, upd_same]
    exact hlast
  · rw [upd_ne (by omega)] at hk
    exact s.low i k hi hk
end Go.Proofs.YtonhpkigoplmaaaGreatDoor
namespace Go.Proofs.YtonhpkigoplmaaaGreatDoor
open Go.RowKit Go.Extern Ieee

/-- So many rows lie there behind i boxes, and so long is each. -/
def rwM (d i : Nat) : Nat := (i + d - 1) / d
def rwL (d i j : Nat) : Nat := min d (i - j * d)

theorem le5 {d : Nat} (h0 : d ≠ 0) (h : d ≤ 5) : d = 1 ∨ d = 2 ∨ d = 3 ∨ d = 4 ∨ d = 5 := by omega
theorem rw_new {d i : Nat} (h0 : d ≠ 0) (h5 : d ≤ 5) (h : i % d = 0) : rwM d (i + 1) = rwM d i + 1 ∧ (∀ j, j < rwM d i → rwL d i j = rwL d (i + 1) j) ∧ rwL d (i + 1) (rwM d i) = 1 ∧ rwM d i * d = i := by
  unfold rwM rwL
  rcases le5 h0 h5 with rfl | rfl | rfl | rfl | rfl <;> refine ⟨by omega, fun j hj => by omega, by omega, by omega⟩
theorem rw_old {d i : Nat} (h0 : d ≠ 0) (h5 : d ≤ 5) (h : i % d ≠ 0) : ∃ l, rwM d i = l + 1 ∧ rwM d (i + 1) = l + 1 ∧ rwL d (i + 1) l = rwL d i l + 1 ∧ l * d + rwL d i l = i ∧ ∀ j, j < l → rwL d i j = rwL d (i + 1) j := by
  unfold rwM rwL
  rcases le5 h0 h5 with rfl | rfl | rfl | rfl | rfl
  · omega
  · exact ⟨i / 2, by omega, by omega, by omega, by omega, fun j hj => by omega⟩
  · exact ⟨i / 3, by omega, by omega, by omega, by omega, fun j hj => by omega⟩
  · exact ⟨i / 4, by omega, by omega, by omega, by omega, fun j hj => by omega⟩
  · exact ⟨i / 5, by omega, by omega, by omega, by omega, fun j hj => by omega⟩
theorem rwL_le (d i j : Nat) : rwL d i j ≤ d := by unfold rwL; omega
theorem rwM_le {d i : Nat} (h5 : d ≤ 5) : rwM d i ≤ i + 1 := by
  unfold rwM
  by_cases h0 : d = 0
  · subst h0; simp
  · rcases le5 h0 h5 with rfl | rfl | rfl | rfl | rfl <;> omega

theorem square_shp {na d n : Nat} (h5 : d ≤ 5) (hz : d = 0 → na = 0) : Square n (rwM d na) (rwL d na) ↔ Shp na d n := by
  unfold Square Shp
  constructor
  · rintro ⟨h0, h4, hm, hl⟩
    by_cases hd : d = 0
    · exfalso
      rw [hz hd, hd] at hm
      simp [rwM] at hm
      omega
    · refine ⟨h0, h4, hd, ?_⟩
      rcases (show n = 1 ∨ n = 2 ∨ n = 3 ∨ n = 4 by omega) with rfl | rfl | rfl | rfl
      · have a := hl 0 (by omega)
        unfold rwM at hm
        unfold rwL at a
        rcases le5 hd h5 with rfl | rfl | rfl | rfl | rfl <;> omega
      · have a := hl 0 (by omega)
        have b := hl 1 (by omega)
        unfold rwM at hm
        unfold rwL at a b
        rcases le5 hd h5 with rfl | rfl | rfl | rfl | rfl <;> omega
      · have a := hl 0 (by omega)
        have b := hl 2 (by omega)
        unfold rwM at hm
        unfold rwL at a b
        rcases le5 hd h5 with rfl | rfl | rfl | rfl | rfl <;> omega
      · have a := hl 0 (by omega)
        have b := hl 3 (by omega)
        unfold rwM at hm
        unfold rwL at a b
        rcases le5 hd h5 with rfl | rfl | rfl | rfl | rfl <;> omega
  · rintro ⟨h0, h4, hd, h⟩
    refine ⟨h0, h4, ?_, fun i hi => ?_⟩
    · unfold rwM
      rcases h with ⟨rfl, rfl⟩ | ⟨h1, rfl, rfl⟩
      · rcases le5 hd h5 with rfl | rfl | rfl | rfl | rfl <;> omega
      · rcases (show d = 1 ∨ d = 2 ∨ d = 3 ∨ d = 4 by omega) with rfl | rfl | rfl | rfl <;> omega
    · unfold rwL
      rcases h with ⟨rfl, rfl⟩ | ⟨h1, rfl, rfl⟩
      · rcases le5 hd h5 with rfl | rfl | rfl | rfl | rfl <;> omega
      · rcases (show d = 1 ∨ d = 2 ∨ d = 3 ∨ d = 4 by omega) with rfl | rfl | rfl | rfl <;> omega

/-- The system, as enclose.Solve has it. -/
def sysW (d n : Nat) (P Qb : Nat → Nat × Nat) : Nat → Nat → Nat × Nat := augW n (fun j x => cB (P (j * d + x))) (fun j => cB (Qb j))

/-- The code, the answer's length, and the answer. -/
def SolIs (na d n : Nat) (P Qb : Nat → Nat × Nat) (k len : Nat) (xs : Nat → Nat × Nat) : Prop :=
  (¬ Shp na d n ∧ k = 8 ∧ len = 0) ∨ (Shp na d n ∧ (((∃ y x, y < n ∧ x ≤ n ∧ outW (sysW d n P Qb y x) = true) ∧ k = 3 ∧ len = 0) ∨ ((∀ y x, y < n → x ≤ n → outW (sysW d n P Qb y x) = false) ∧
    ((solveX muX suX quX pvX n (sysW d n P Qb) (fun _ => (0, 0)) = none ∧ k = 9 ∧ len = 0) ∨ (solveX muX suX quX pvX n (sysW d n P Qb) (fun _ => (0, 0)) = some xs ∧ k = 0 ∧ len = n)))))
theorem solIs_ex (na d n : Nat) (P Qb : Nat → Nat × Nat) : ∃ k len xs, SolIs na d n P Qb k len xs := by
  unfold SolIs
  by_cases h1 : Shp na d n
  · by_cases h2 : ∃ y x, y < n ∧ x ≤ n ∧ outW (sysW d n P Qb y x) = true
    · exact ⟨3, 0, fun _ => (0, 0), .inr ⟨h1, .inl ⟨h2, rfl, rfl⟩⟩⟩
    · have h3 : ∀ y x, y < n → x ≤ n → outW (sysW d n P Qb y x) = false := fun y x hy hx => by
        cases h : outW (sysW d n P Qb y x)
        · rfl
        · exact absurd ⟨y, x, hy, hx, h⟩ h2
      cases h : solveX muX suX quX pvX n (sysW d n P Qb) (fun _ => (0, 0)) with
      | none => exact ⟨9, 0, fun _ => (0, 0), .inr ⟨h1, .inr ⟨h3, .inl ⟨rfl, rfl, rfl⟩⟩⟩⟩
      | some g => exact ⟨0, n, g, .inr ⟨h1, .inr ⟨h3, .inr ⟨rfl, rfl, rfl⟩⟩⟩⟩
  · exact ⟨8, 0, fun _ => (0, 0), .inl ⟨h1, rfl, rfl⟩⟩

theorem Rws.congr {b bl : Nat} {W : World} {v : Value} {m m' : Nat} {hv : Nat → Value} {ln ln' : Nat → Nat} {R R' : Nat → Nat → Nat × Nat} (s : Rws b bl W v m hv ln R) (hm : m = m') (h1 : ∀ j, j < m → ln j = ln' j) (h2 : ∀ j x, j < m → x < ln j → R j x = R' j x) : Rws b bl W v m' hv ln' R' := by
  subst hm
  have key : ∀ j, j < m → ivs (R j) (ln j) = ivs (R' j) (ln' j) := fun j hj => by
    rw [← h1 j hj]
    exact ivs_congr fun x hx => h2 j x hj hx
  refine ⟨s.own, fun j hj => ?_, fun l hl => ?_, s.low, s.ge, s.le⟩
  · rw [← key j hj, ← h1 j hj]; exact s.row j hj
  · rw [← key l (by omega), ← h1 l (by omega)]; exact s.last l hl
theorem Rws.nil (b : Nat) (W : World) (hv : Nat → Value) (ln : Nat → Nat) (R : Nat → Nat → Nat × Nat) (hb : b ≤ W.heap.size) : Rws b b W (.slice none 0 0) 0 hv ln R :=
  ⟨⟨rfl, .inl ⟨rfl, rfl⟩⟩, fun j hj => by omega, fun l hl => by omega, fun i k hi => by omega, Nat.le_refl _, hb⟩

/-- The rows behind i boxes. -/
def RwI (b : Nat) (W : World) (v : Value) (d i : Nat) (C : Nat → Nat × Nat) : Prop := ∃ bl hv, Rws b bl W v (rwM d i) hv (rwL d i) (fun j x => C (j * d + x))

/-- They are ready for one more interval, in the last one. -/
structure RwP (b : Nat) (W : World) (v : Value) (d i : Nat) (C : Nat → Nat × Nat) (bl l g c k : Nat) (hl : Value) (r : Nat → Nat × Nat) : Prop where
  e : v = .slice (some ⟨g, 0, none⟩) (l + 1) c
  cell : W.cell? ⟨g, l, none⟩ = some hl
  nf : W.frozen? ⟨g, l, none⟩ = false
  own : W.ownsRow bl 67 2 hl k (ivs r k)
  gb : b ≤ g
  glt : g < W.heap.size
  le : bl ≤ W.heap.size
  bb : b ≤ bl
  k5 : k ≤ 5
  li : l ≤ i
  step : ∀ W2, Below W.heap.size W W2 → ∀ W1 u', W1.ownsRow bl 67 2 u' (k + 1) (ivs r k ++ [.float .f64 (C i).1, .float .f64 (C i).2]) → W2.grownBy W1 hl.ownBlock → (W1.cell? ⟨g, l, none⟩ = some hl ∧ W1.frozen? ⟨g, l, none⟩ = false) ∧ RwI b (W1.setCell ⟨g, l, none⟩ u') v d (i + 1) C

theorem Rws.head {b bl : Nat} {W : World} {v : Value} {l : Nat} {hv : Nat → Value} {ln : Nat → Nat} {R : Nat → Nat → Nat × Nat} (s : Rws b bl W v (l + 1) hv ln R) : ∃ g c, v = .slice (some ⟨g, 0, none⟩) (l + 1) c ∧ W.cell? ⟨g, l, none⟩ = some (hv l) ∧ W.frozen? ⟨g, l, none⟩ = false ∧ b ≤ g ∧ g < W.heap.size := by
  obtain ⟨g, c, e, hg, hc, h⟩ := s.cells (by omega)
  refine ⟨g, c, e, h l (by omega), ?_, hg, lt_of_cell (h l (by omega))⟩
  subst e
  obtain ⟨-, cur, h1⟩ := own_block s.own (g := g) (by simp [Value.ownBlock])
  simp [World.frozen?, h1]

theorem Rws.grown {b bl : Nat} {W W1 : World} {l g c : Nat} {hv : Nat → Value} {ln : Nat → Nat} {R : Nat → Nat → Nat × Nat} (s : Rws b bl W (.slice (some ⟨g, 0, none⟩) (l + 1) c) (l + 1) hv ln R) (hg : W.grownBy W1 (hv l).ownBlock) : W1.cell? ⟨g, l, none⟩ = some (hv l) ∧ W1.frozen? ⟨g, l, none⟩ = false := by
  have hT : (67 : TypeId) ≠ 86 := by decide
  have own1 := own_grown s.own hg fun k hk hk' => own_ne s.own (s.row l (by omega)) hT.symm hk hk'
  obtain ⟨-, ⟨e, -⟩ | ⟨g', c', cur, e, -, h1, h2, h3, h4, h5⟩⟩ := own1
  · cases e
  · cases e
    refine ⟨?_, by simp [World.frozen?, h1]⟩
    rw [cell_of_cur h1, ← Array.getElem?_toList, ← List.getElem?_take_of_lt (show l < (l + 1) * 1 by omega), h5, List.getElem?_map, List.getElem?_range (by omega)]
    rfl

theorem RwI.below {b : Nat} {W W' : World} {v : Value} {d i : Nat} {C : Nat → Nat × Nat} (s : RwI b W v d i C) (hb : Below W.heap.size W W') : RwI b W' v d i C := by
  obtain ⟨bl, hv, s⟩ := s
  exact ⟨bl, hv, s.below hb⟩

theorem RwI.old {b : Nat} {W : World} {v : Value} {d i : Nat} {C : Nat → Nat × Nat} (s : RwI b W v d i C) (h0 : d ≠ 0) (h5 : d ≤ 5) (h : i % d ≠ 0) : ∃ bl l g c k hl r, RwP b W v d i C bl l g c k hl r := by
  obtain ⟨bl, hv, s⟩ := s
  obtain ⟨l, h1, h2, h3, h4, h6⟩ := rw_old h0 h5 h
  rw [h1] at s
  obtain ⟨g, c, e, hc, hf, hgb, hgl⟩ := s.head
  refine ⟨bl, l, g, c, rwL d i l, hv l, fun x => C (l * d + x), e, hc, hf, s.last l rfl, hgb, hgl, s.le, s.ge, Nat.le_trans (rwL_le _ _ _) h5, ?_, fun W2 hb2 W1 u' ho hg => ?_⟩
  · have := Nat.le_mul_of_pos_right l (Nat.pos_of_ne_zero h0); omega
  subst e
  have s := s.below hb2
  refine ⟨s.grown hg, bl, upd hv l u', (s.push (p := C i) ho hg).congr h2.symm (fun j hj => ?_) (fun j x hj hx => ?_)⟩
  · by_cases hjl : j = l
    · subst hjl; rw [upd_same]; exact h3.symm
    · rw [upd_ne hjl]; exact h6 j (by omega)
  · by_cases hjl : j = l
    · subst hjl
      rw [upd_same]
      by_cases hxl : x = rwL d i j
      · subst hxl; rw [upd_same, h4]
      · rw [upd_ne hxl]
    · rw [upd_ne hjl]

theorem RwI.new {b : Nat} {W W' : World} {v v' : Value} {d i : Nat} {C : Nat → Nat × Nat} {hv : Nat → Value} {bl : Nat} (s : Rws b bl W v (rwM d i) hv (rwL d i) (fun j x => C (j * d + x))) (h0 : d ≠ 0) (h5 : d ≤ 5) (h : i % d = 0) (hb : b ≤ W.heap.size)
    (ho : W'.ownsRow b 86 1 v' (rwM d i + 1) ((List.range (rwM d i)).map hv ++ [.slice none 0 0])) (hg : W.grownBy W' v.ownBlock) : ∃ bl l g c k hl r, RwP b W' v' d i C bl l g c k hl r := by
  obtain ⟨h1, h2, h3, h4⟩ := rw_new h0 h5 h
  have t := s.push_nil hb ho hg
  obtain ⟨g, c, e, hc, hf, hgb, hgl⟩ := t.head
  have hrow := t.last (rwM d i) rfl
  rw [upd_same] at hc
  rw [upd_same, upd_same] at hrow
  refine ⟨W.heap.size, rwM d i, g, c, 0, .slice none 0 0, fun x => C (rwM d i * d + x), e, hc, hf, hrow, hgb, hgl, t.le, t.ge, by omega, ?_, fun W2 hb2 W1 u' ho1 hg1 => ?_⟩
  · have := Nat.le_mul_of_pos_right (rwM d i) (Nat.pos_of_ne_zero h0); omega
  subst e
  have t2 := t.below hb2
  have tg := t2.grown (by rw [upd_same]; exact hg1)
  rw [upd_same] at tg
  refine ⟨tg, _, _, (t2.push (u' := u') (p := C i) (by rw [upd_same]; exact ho1) (by rw [upd_same]; exact hg1)).congr h1.symm (fun j hj => ?_) (fun j x hj hx => ?_)⟩
  · by_cases hjl : j = rwM d i
    · subst hjl; rw [upd_same, upd_same]; exact h3.symm
    · rw [upd_ne hjl, upd_ne hjl]; exact h2 j (by omega)
  · by_cases hjl : j = rwM d i
    · subst hjl
      rw [upd_same, upd_same]
      by_cases hx0 : x = 0
      · subst hx0; rw [upd_same, Nat.add_zero, h4]
      · rw [upd_ne hx0]
    · rw [upd_ne hjl]
end Go.Proofs.YtonhpkigoplmaaaGreatDoor
namespace Go.Proofs.YtonhpkigoplmaaaGreatDoor
open Go.RowKit Go.Extern Ieee

theorem cB_iv {p : Nat × Nat} (h : p.1 < 18446744073709551616 ∧ p.2 < 18446744073709551616) : Iv (cB p).1 (cB p).2 := made_iv _ _ h.1 h.2

/-- An index into the rows. -/
theorem shp_idx {na d n : Nat} (h : Shp na d n) : na = n * n ∧ ∀ y x, y < n → x < n → y * d + x = n * y + x ∧ n * y + x < na := by
  obtain ⟨h0, h4, hd, h⟩ := h
  rcases h with ⟨rfl, rfl⟩ | ⟨h1, rfl, rfl⟩
  · refine ⟨rfl, fun y x hy hx => ?_⟩
    obtain rfl : y = 0 := by omega
    omega
  · refine ⟨rfl, fun y x hy hx => ⟨by rw [Nat.mul_comm], ?_⟩⟩
    have : d * (y + 1) ≤ d * d := Nat.mul_le_mul_left d (by omega)
    have h3 : d * (y + 1) = d * y + d := Nat.mul_succ d y
    omega
theorem sys_at {na d n : Nat} (h : Shp na d n) (P Qb : Nat → Nat × Nat) {y x : Nat} (hy : y < n) : (x < n → sysW d n P Qb y x = cB (P (n * y + x))) ∧ sysW d n P Qb y n = cB (Qb y) := by
  constructor
  · intro hx
    unfold sysW augW
    rw [if_pos hx]
    show cB (P (y * d + x)) = _
    rw [((shp_idx h).2 y x hy hx).1]
  · unfold sysW augW
    rw [if_neg (Nat.lt_irrefl _)]
theorem sys_iv {na d n : Nat} (h : Shp na d n) {P Qb : Nat → Nat × Nat} (hP : Wds na P) (hQ : Wds n Qb) : ∀ y x, y < n → x ≤ n → ivW (sysW d n P Qb y x) := by
  intro y x hy hx
  by_cases hxn : x < n
  · rw [(sys_at h P Qb hy).1 hxn]; exact cB_iv (hP _ ((shp_idx h).2 y x hy hxn).2)
  · obtain rfl : x = n := by omega
    rw [(sys_at h P Qb hy (x := 0)).2]; exact cB_iv (hQ y hy)
theorem out_fair {p : Nat × Nat} (h : p.1 < 18446744073709551616 ∧ p.2 < 18446744073709551616) : outW (cB p) = false ↔ (fairT (plT (cB p).1) = true ∧ fairT (plT (cB p).2) = true) := by
  have i := cB_iv h
  unfold outW
  rw [reach_fair i.lt1 i.p1, reach_fair i.lt2 i.p2]
  cases fairT (plT (cB p).1) <;> cases fairT (plT (cB p).2) <;> simp
/-- In range: both judges agree. -/
theorem range_iff {na d n : Nat} (h : Shp na d n) {P Qb : Nat → Nat × Nat} (hP : Wds na P) (hQ : Wds n Qb) : (∀ y x, y < n → x ≤ n → outW (sysW d n P Qb y x) = false) ↔ (RngP na P ∧ RngP n Qb) := by
  constructor
  · intro ho
    refine ⟨fun i hi => ?_, fun i hi => ?_⟩
    · have h0 := h.1
      have hna := (shp_idx h).1
      have hy : i / n < n := Nat.div_lt_of_lt_mul (by omega)
      have hx : i % n < n := Nat.mod_lt _ (Nat.pos_of_ne_zero h0)
      have := ho (i / n) (i % n) hy (by omega)
      rw [(sys_at h P Qb hy).1 hx, Nat.div_add_mod] at this
      exact (out_fair (hP i hi)).1 this
    · have := ho i n hi (Nat.le_refl _)
      rw [(sys_at h P Qb hi (x := 0)).2] at this
      exact (out_fair (hQ i hi)).1 this
  · rintro ⟨h1, h2⟩ y x hy hx
    by_cases hxn : x < n
    · rw [(sys_at h P Qb hy).1 hxn]
      have hl := ((shp_idx h).2 y x hy hxn).2
      exact (out_fair (hP _ hl)).2 (h1 _ hl)
    · obtain rfl : x = n := by omega
      rw [(sys_at h P Qb hy (x := 0)).2]
      exact (out_fair (hQ y hy)).2 (h2 y hy)
/-- The answer holds each solution. -/
theorem held_sys {na d n : Nat} (h : Shp na d n) {P Qb xs : Nat → Nat × Nat} (hP : Wds na P) (hQ : Wds n Qb) (hs : solveX muX suX quX pvX n (sysW d n P Qb) (fun _ => (0, 0)) = some xs) : HldP n (fun i => cB (P i)) (fun i => cB (Qb i)) xs := by
  intro R h1 h2
  have hf := held_fact h.2.1 (R := R) hs (sys_iv h hP hQ) (fun y x hy hx => by
    by_cases hxn : x < n
    · rw [(sys_at h P Qb hy).1 hxn]; exact h1 y x hy hxn
    · obtain rfl : x = n := by omega
      rw [(sys_at h P Qb hy (x := 0)).2]; exact h2 y hy)
  exact ⟨hf.1, fun i hi => (hf.2 i hi).2⟩
theorem iv_sys {na d n : Nat} (h : Shp na d n) {P Qb xs : Nat → Nat × Nat} (hP : Wds na P) (hQ : Wds n Qb) (hs : solveX muX suX quX pvX n (sysW d n P Qb) (fun _ => (0, 0)) = some xs) : Ivs n xs := by
  have hf := held_fact h.2.1 (R := fun y x => valW (sysW d n P Qb y x).1) hs (sys_iv h hP hQ) (fun y x hy hx => ⟨by grind, (sys_iv h hP hQ y x hy hx).vle⟩)
  exact fun i hi => (hf.2 i hi).1
theorem fairR_of {q : Rat} {x : Bool × Nat × Int} (h : fairT x = true) (e : q = valQ x) : FairR q := by
  unfold fairT at h
  rw [← e, Bool.or_eq_true, Bool.and_eq_true, decide_eq_true_eq, decide_eq_true_eq, decide_eq_true_eq] at h
  have h1 := pw_nat 30
  rw [show ((30 : Nat) : Int) = 30 by rfl, show (2 ^ 30 : Nat) = 1073741824 by decide] at h1
  have h2 := pw_add (-30) 30
  rw [show (-30 : Int) + 30 = 0 by rfl, pw_zero, h1] at h2
  have h3 : ((1073741824 : Nat) : Rat) = 1073741824 := rfl
  rw [h3] at h1 h2
  have h4 : pw (-30) = 1 / 1073741824 := by grind
  rcases h with h | ⟨a, b⟩
  · exact .inl h
  · exact .inr ⟨by rw [← h4]; exact a, by rw [← h1]; exact b⟩
theorem sum_split (n i : Nat) (hi : i < n) (f : Nat → Rat) : sumR n f = f i + sumR n (fun j => if j = i then 0 else f j) := by
  induction n with
  | zero => omega
  | succ n ih =>
    show sumR n f + f n = f i + (sumR n (fun j => if j = i then 0 else f j) + (if n = i then 0 else f n))
    by_cases hin : n = i
    · subst hin
      rw [if_pos rfl, show sumR n (fun j => if j = n then 0 else f j) = sumR n f from sumR_congr fun j hj => by rw [if_neg (by omega)]]
      grind
    · rw [if_neg hin, ih (by omega)]; grind
/-- It is sure, and narrow, where it must. -/
theorem sure_sys {na d n : Nat} (h : Shp na d n) {P Qb : Nat → Nat × Nat} (hP : Wds na P) (hQ : Wds n Qb) (hr : RngP na P ∧ RngP n Qb) (hs : ∀ i, i < n → SurR n (fun i => cB (P i)) (fun i => cB (Qb i)) i) :
    ∃ g, solveX muX suX quX pvX n (sysW d n P Qb) (fun _ => (0, 0)) = some g ∧ ∀ G : Rat, (∀ j, j < n → ab (valW (g j).1) ≤ G ∧ ab (valW (g j).2) ≤ G) → ∀ i, i < n → valW (g i).2 - valW (g i).1 ≤ G / 1073741824 := by
  refine narrow_fact h.2.1 (R := fun y x => valW (sysW d n P Qb y x).1) (sys_iv h hP hQ) (fun y x hy hx => ⟨rfl, ?_⟩) (fun y x hy hx => ?_) (fun i hi => ?_) (fun i hi => ?_)
  · unfold hiW
    by_cases hxn : x < n
    · rw [(sys_at h P Qb hy).1 hxn]
      have := (hs y hy).a x hxn
      rw [this]
    · obtain rfl : x = n := by omega
      rw [(sys_at h P Qb hy (x := 0)).2]
      have := (hs y hy).b
      rw [this]
  · by_cases hxn : x < n
    · rw [(sys_at h P Qb hy).1 hxn]
      exact fairR_of (hr.1 _ ((shp_idx h).2 y x hy hxn).2).1 rfl
    · obtain rfl : x = n := by omega
      rw [(sys_at h P Qb hy (x := 0)).2]
      exact fairR_of (hr.2 y hy).1 rfl
  · rw [(sys_at h P Qb hi).1 hi]
    exact (hs i hi).nz
  · have hd := (hs i hi).dom
    rw [sum_split n i hi]
    rw [(sys_at h P Qb hi).1 hi]
    have e : sumR n (fun j => if j = i then 0 else ab (valW (sysW d n P Qb i j).1)) = sumR n (fun j => if j = i then 0 else ab (valW (cB (P (n * i + j))).1)) := sumR_congr fun j hj => by rw [(sys_at h P Qb hi).1 hj]
    rw [e]
    grind
end Go.Proofs.YtonhpkigoplmaaaGreatDoor
namespace Go.Proofs.YtonhpkigoplmaaaGreatDoor
open Go.RowKit Go.Extern Ieee

theorem equalIn_nilS {P : Program} (w : World) (d : Nat) (t e : TypeId) (h : P.underlying t = some (.slice e)) : (Op.equalIn (d + 1) t (.slice none 0 0) (.slice none 0 0)).run P w = .ok true w := by
  simp [Op.equalIn, run_underlying h]
theorem eql_nilS {P : Program} (w : World) (t e : TypeId) (h : P.underlying t = some (.slice e)) : (binOp .eql t (.slice none 0 0) (.slice none 0 0)).run P w = .ok (.bool true) w := by
  have := equalIn_nilS (P := P) w 9999 t e h
  have h2 : (Op.equal t (.slice none 0 0) (.slice none 0 0)).run P w = .ok true w := this
  simp [binOp, h2]

set_option maxHeartbeats 4000000 in
set_option maxRecDepth 100000 in
theorem judge_shape (ao bo : Option Addr) (na ac d nb bc : Nat) (pick : Int) (w : World) (hnb : nb < 4611686018427387904) (hd : d ≤ 5) (hs : ¬ Shp na d nb) :
    Calls Tryz.prog 86 #[.slice ao na ac, .int .i64 (d : Int), .slice bo nb bc, .slice none 0 0, .int .i64 8, .int .i64 pick] w fun e w' => e = .returned (.bool true) ∧ Below w.heap.size w w' := by
  have HS := hid (shaped_any ao bo na ac d nb bc w hnb hd)
  have HN := hid hs
  have hnf := fun (w : World) => eql_nilS (P := Tryz.prog) w 61 28 Tryz.underlying61
  clear hs
  go_enter Tryz.func86, Tryz.ntmps86
  go_wp2_with fail
  refine Calls.mono HS.out ?_
  rintro e w1 ⟨r, rfl, hr, hw⟩
  subst hw
  obtain rfl : r = false := by
    cases r with
    | false => rfl
    | true => exact absurd (hr.1 rfl) HN.out
  clear hr HS HN
  go_wp2
  go_ret
  exact ⟨rfl, Below.refl _ _⟩

set_option maxHeartbeats 4000000 in
set_option maxRecDepth 100000 in
theorem judge_range (ao bo : Option Addr) (na ac d nb bc : Nat) (P Qb : Nat → Nat × Nat) (pick : Int) (w : World) (hnb : nb ≤ 4) (hna : na ≤ 100) (hd : d ≤ 5) (hP : BxV w ao na P) (hQ : BxV w bo nb Qb) (wP : Wds na P) (wQ : Wds nb Qb) (hs : Shp na d nb) (hr : ¬ (RngP na P ∧ RngP nb Qb)) :
    Calls Tryz.prog 86 #[.slice ao na ac, .int .i64 (d : Int), .slice bo nb bc, .slice none 0 0, .int .i64 3, .int .i64 pick] w fun e w' => e = .returned (.bool true) ∧ Below w.heap.size w w' := by
  have HS := hid (shaped_any ao bo na ac d nb bc w (by omega) hd)
  have H1 := hid (ranged_any ao na ac P w hP hna wP)
  have H2 : Hid (∀ W, Below w.heap.size w W → Calls Tryz.prog 136 #[.slice bo nb bc] W fun e w' => ∃ r, e = .returned (.bool r) ∧ (r = true ↔ RngP nb Qb) ∧ Below W.heap.size W w') := fun W hW => ranged_any bo nb bc Qb W (hQ.below hW) (by omega) wQ
  have HSh := hid hs
  have HN := hid hr
  have hnf := fun (w : World) => eql_nilS (P := Tryz.prog) w 61 28 Tryz.underlying61
  clear hs hr hP hQ wP wQ
  go_enter Tryz.func86, Tryz.ntmps86
  go_wp2_with fail
  refine Calls.mono HS.out ?_
  rintro e w1 ⟨r, rfl, hr, hw⟩
  subst w1
  obtain rfl : r = true := hr.2 HSh.out
  clear hr HS HSh
  go_wp2_with fail
  refine Calls.mono H1.out ?_
  rintro e w1 ⟨r1, rfl, hr1, hb1⟩
  have R1 := hid hr1
  have B1 := hid hb1
  clear hr1 hb1 H1
  go_wp2_with fail
  refine Calls.mono (H2.out _ B1.out) ?_
  rintro e w2 ⟨r2, rfl, hr2, hb2⟩
  have R2 := hid hr2
  have B2 := hid (B1.out.trans (hb2.mono B1.out.size))
  clear hr2 hb2 H2 B1
  cases r1 with
  | false =>
    go_wp2
    go_ret
    exact ⟨rfl, B2.out⟩
  | true =>
    cases r2 with
    | false =>
      go_wp2
      go_ret
      exact ⟨rfl, B2.out⟩
    | true => exact absurd ⟨R1.out.1 rfl, R2.out.1 rfl⟩ HN.out

set_option maxHeartbeats 4000000 in
set_option maxRecDepth 100000 in
theorem judge_unsure (ao bo : Option Addr) (na ac d nb bc : Nat) (P Qb : Nat → Nat × Nat) (pick : Int) (w : World) (hnb : nb ≤ 4) (hna : na ≤ 100) (hd : d ≤ 5) (hP : BxV w ao na P) (hQ : BxV w bo nb Qb) (wP : Wds na P) (wQ : Wds nb Qb) (hs : Shp na d nb) (hr : RngP na P ∧ RngP nb Qb) (hx : solveX muX suX quX pvX nb (sysW d nb P Qb) (fun _ => (0, 0)) = none) :
    Calls Tryz.prog 86 #[.slice ao na ac, .int .i64 (d : Int), .slice bo nb bc, .slice none 0 0, .int .i64 9, .int .i64 pick] w fun e w' => e = .returned (.bool true) ∧ Below w.heap.size w w' := by
  have HS := hid (shaped_any ao bo na ac d nb bc w (by omega) hd)
  have H1 := hid (ranged_any ao na ac P w hP hna wP)
  have H2 : Hid (∀ W, Below w.heap.size w W → Calls Tryz.prog 136 #[.slice bo nb bc] W fun e w' => ∃ r, e = .returned (.bool r) ∧ (r = true ↔ RngP nb Qb) ∧ Below W.heap.size W w') := fun W hW => ranged_any bo nb bc Qb W (hQ.below hW) (by omega) wQ
  have H3 : Hid (∀ W, Below w.heap.size w W → Calls Tryz.prog 137 #[.slice ao na ac] W fun e w' => ∃ bo bc, e = .returned (.slice bo na bc) ∧ BxV w' bo na (fun i => cB (P i)) ∧ Below W.heap.size W w') := fun W hW => normal_any ao na ac P W (hP.below hW) hna wP
  have H4 : Hid (∀ W, Below w.heap.size w W → Calls Tryz.prog 137 #[.slice bo nb bc] W fun e w' => ∃ bo bc, e = .returned (.slice bo nb bc) ∧ BxV w' bo nb (fun i => cB (Qb i)) ∧ Below W.heap.size W w') := fun W hW => normal_any bo nb bc Qb W (hQ.below hW) (by omega) wQ
  have H5 : Hid (∀ W a1 a2 b1 b2, BxV W a1 na (fun i => cB (P i)) → BxV W b1 nb (fun i => cB (Qb i)) → Calls Tryz.prog 138 #[.slice a1 na a2, .slice b1 nb b2] W fun e w' => e = .returned (.bool false) ∧ Below W.heap.size W w') := fun W a1 a2 b1 b2 h1 h2 => (sure_any a1 b1 nb na a2 b2 _ _ W h1 h2 (shp_idx hs).1 hnb (fun i hi => cB_iv (wP i hi))).mono fun e w' h => by
    obtain ⟨r, rfl, hr', hb'⟩ := h
    cases r with
    | false => exact ⟨rfl, hb'⟩
    | true =>
      obtain ⟨g, hg, -⟩ := sure_sys hs wP wQ hr (hr' rfl)
      rw [hx] at hg
      cases hg
  have HSh := hid hs
  have HN := hid hr
  have hnf := fun (w : World) => eql_nilS (P := Tryz.prog) w 61 28 Tryz.underlying61
  clear hs hr hP hQ wP wQ hx
  go_enter Tryz.func86, Tryz.ntmps86
  go_wp2_with fail
  refine Calls.mono HS.out ?_
  rintro e w1 ⟨r, rfl, hr, hw⟩
  subst w1
  obtain rfl : r = true := hr.2 HSh.out
  clear hr HS HSh
  go_wp2_with fail
  refine Calls.mono H1.out ?_
  rintro e w1 ⟨r1, rfl, hr1, hb1⟩
  obtain rfl : r1 = true := hr1.2 HN.out.1
  have B1 := hid hb1
  clear hr1 hb1 H1
  go_wp2_with fail
  refine Calls.mono (H2.out _ B1.out) ?_
  rintro e w2 ⟨r2, rfl, hr2, hb2⟩
  obtain rfl : r2 = true := hr2.2 HN.out.2
  have B2 := hid (B1.out.trans (hb2.mono B1.out.size))
  clear hr2 hb2 H2 B1 HN
  go_wp2_with fail
  refine Calls.mono (H3.out _ B2.out) ?_
  rintro e w3 ⟨a1, a2, rfl, hx3, hb3⟩
  have X3 := hid hx3
  have B3 := hid (B2.out.trans (hb3.mono B2.out.size))
  clear hx3 hb3 H3 B2
  go_wp2_with fail
  refine Calls.mono (H4.out _ B3.out) ?_
  rintro e w4 ⟨b1, b2, rfl, hx4, hb4⟩
  have X3 := hid (X3.out.below hb4)
  have X4 := hid hx4
  have B4 := hid (B3.out.trans (hb4.mono B3.out.size))
  clear hx4 hb4 H4 B3
  go_wp2_with fail
  refine Calls.mono (H5.out _ _ _ _ _ X3.out X4.out) ?_
  rintro e w5 ⟨rfl, hb5⟩
  have B5 := hid (B4.out.trans (hb5.mono B4.out.size))
  clear hb5 H5 B4 X3 X4
  go_wp2
  go_ret
  exact ⟨rfl, B5.out⟩
end Go.Proofs.YtonhpkigoplmaaaGreatDoor
