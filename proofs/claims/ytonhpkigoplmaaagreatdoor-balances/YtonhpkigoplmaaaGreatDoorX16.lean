/-
  SlvS, SlvT, BalN, ExactF, ExactG, ExactH.
-/
import Derived.Test.YtonhpkigoplmaaaGreatDoorX15
import Derived.Test.YtonhpkigoplmaaaGreatDoorX10
import Derived.Test.YtonhpkigoplmaaaGreatDoorX09
import Derived.Test.YtonhpkigoplmaaaGreatDoorX12
import Derived.Test.YtonhpkigoplmaaaGreatDoorX05
import Derived.Test.YtonhpkigoplmaaaGreatDoorX04
namespace Go.Proofs.YtonhpkigoplmaaaGreatDoor
open Go.RowKit Go.Extern Ieee
attribute [local go_sem] run_store_float

/-- enclose.Solve upon the rows. -/
theorem solve_of (A : Nat → Addr) (na d nb : Nat) (P Qb : Nat → Nat × Nat) (k len : Nat) (xs : Nat → Nat × Nat) (hi : SolIs na d nb P Qb k len xs) (h5 : d ≤ 5) (hz : d = 0 → na = 0) (hna : na ≤ 100) (hnb : nb < 4611686018427387904)
    (hP : ∀ i, i < na → (P i).1 < 18446744073709551616 ∧ (P i).2 < 18446744073709551616) (hQ : ∀ i, i < nb → (Qb i).1 < 18446744073709551616 ∧ (Qb i).2 < 18446744073709551616)
    (b : Nat) (W : World) (hS : Sents A W) (v8 v11 : Value) (h8 : RwI b W v8 d na (fun i => cB (P i))) (h11 : W.ownsRow b 67 2 v11 nb (ivs (fun i => cB (Qb i)) nb)) :
    Calls Tryz.prog 54 #[v8, v11] W fun e w' => ∃ vl ve, e = .returned (.tuple #[vl, ve]) ∧ ErrIs A w' ve k ⟨#[]⟩ ∧ Below W.heap.size W w' ∧ ((len = 0 ∧ vl = .slice none 0 0) ∨ (len ≠ 0 ∧ len ≤ 4 ∧ ∃ g, vl = .slice (some ⟨g, 0, none⟩) len len ∧ W.heap.size ≤ g ∧ RowI w' g len xs)) := by
  obtain ⟨bl, hv, s⟩ := h8
  obtain ⟨bo, bc, rfl⟩ := own_slice h11
  have sq := square_shp (n := nb) h5 hz
  have hm := rwM_le (d := d) (i := na) h5
  rcases hi with ⟨hn, rfl, rfl⟩ | ⟨hs, hi⟩
  · obtain ⟨ro, rc, rfl⟩ := own_slice s.own
    refine (solve_bad A ro bo (rwM d na) rc nb bc (rwL d na) W hS s.heads (by omega) hnb (fun i _ => by have := rwL_le d na i; omega) (fun h => hn (sq.1 h))).mono ?_
    rintro e w' ⟨hbl, rfl⟩
    exact ⟨_, _, rfl, .inr (.inl ⟨7, by omega, rfl, rfl, rfl⟩), hbl, .inl ⟨rfl, rfl⟩⟩
  · have hq := sq.2 hs
    have hs2 := hs
    obtain ⟨h0, h4, hd, hsh⟩ := hs2
    have em : rwM d na = nb := hq.2.2.1
    have hq2 : Square nb nb (rwL d na) := by rw [em] at hq; exact hq
    rw [em] at s
    obtain ⟨ga, ca, gA, cA, rfl, hA, hR⟩ := s.good hq2
    obtain ⟨gB, bc', e, hgB, hcB, hB⟩ := RowI.of_owns h11 h0
    cases e
    have idx : ∀ y x, y < nb → x < nb → y * d + x < na := by
      intro y x hy hx
      rcases hsh with ⟨rfl, rfl⟩ | ⟨-, rfl, rfl⟩
      · have : y = 0 := by omega
        subst this; omega
      · have : (y + 1) * d ≤ d * d := Nat.mul_le_mul_right d (by omega)
        rw [Nat.succ_mul] at this
        omega
    have iv : ∀ y x, y < nb → x ≤ nb → ivW (sysW d nb P Qb y x) := by
      intro y x hy hx
      unfold sysW augW
      split
      · rename_i hlt
        have := hP _ (idx y x hy hlt)
        exact made_iv _ _ this.1 this.2
      · have := hQ y hy
        exact made_iv _ _ this.1 this.2
    refine (solve_good A ga nb ca gB bc gA cA (fun j x => cB (P (j * d + x))) (fun j => cB (Qb j)) W hS h0 h4 hA hR hB iv _ rfl).mono ?_
    rintro e w' ⟨hbl, ⟨⟨y, x, hy, hx, ho⟩, rfl⟩ | ⟨hno, hres⟩⟩
    · rcases hi with ⟨-, rfl, rfl⟩ | ⟨hno, -⟩
      · exact ⟨_, _, rfl, .inr (.inl ⟨2, by omega, rfl, rfl, rfl⟩), hbl, .inl ⟨rfl, rfl⟩⟩
      · have := hno y x hy hx
        unfold sysW at this
        rw [ho] at this
        cases this
    · rcases hi with ⟨⟨y, x, hy, hx, ho⟩, -⟩ | ⟨-, hi⟩
      · have := hno y x hy hx
        unfold sysW at ho
        rw [ho] at this
        cases this
      · rcases hres with ⟨g, gf, e1, rfl, hgf, hrow, -⟩ | ⟨e1, rfl⟩
        · rcases hi with ⟨e2, -, -⟩ | ⟨e2, rfl, rfl⟩
          · unfold sysW at e2
            rw [e2] at e1
            cases e1
          · unfold sysW at e2
            rw [e2] at e1
            cases e1
            exact ⟨_, _, rfl, .inl ⟨rfl, rfl, rfl⟩, hbl, .inr ⟨h0, h4, gf, rfl, hgf, hrow⟩⟩
        · rcases hi with ⟨-, rfl, rfl⟩ | ⟨e2, -, -⟩
          · exact ⟨_, _, rfl, .inr (.inl ⟨8, by omega, rfl, rfl, rfl⟩), hbl, .inl ⟨rfl, rfl⟩⟩
          · unfold sysW at e2
            rw [e2] at e1
            cases e1
end Go.Proofs.YtonhpkigoplmaaaGreatDoor
namespace Go.Proofs.YtonhpkigoplmaaaGreatDoor
open Go.RowKit Go.Extern Ieee
attribute [local go_sem] run_store_float

set_option maxHeartbeats 16000000 in
set_option maxRecDepth 100000 in
theorem plainSolve_any (A : Nat → Addr) (ao bo : Option Addr) (na ac d nb bc : Nat) (P Qb : Nat → Nat × Nat) (k len : Nat) (xs : Nat → Nat × Nat) (w : World) (hS : Sents A w) (ha : BxV w ao na P) (hb : BxV w bo nb Qb) (hi : SolIs na d nb P Qb k len xs) (h5 : d ≤ 5) (hz : d = 0 → na = 0) (hna : na ≤ 100) (hnb : nb * 16 ≤ 140737488355328)
    (hP : ∀ i, i < na → (P i).1 < 18446744073709551616 ∧ (P i).2 < 18446744073709551616) (hQ : ∀ i, i < nb → (Qb i).1 < 18446744073709551616 ∧ (Qb i).2 < 18446744073709551616) :
    Calls Tryz.prog 24 #[.slice ao na ac, .int .i64 (d : Int), .slice bo nb bc] w fun e w' => ∃ oo oc, e = .returned (.tuple #[.slice oo len oc, .int .i64 (k : Int)]) ∧ BxV w' oo len xs ∧ len ≤ oc ∧ (len = 0 → oo = none ∧ oc = 0) ∧ Below w.heap.size w w' := by
  obtain ⟨i1, hi1, hy0, hy1, hy2⟩ := info_parts infoIv
  obtain ⟨i0, hi0, hz0, hz1, hz2⟩ := info_parts infoSl
  obtain ⟨i2, hi2, hx0, hx1, hx2⟩ := info_parts infoPB
  have HA := hid' ha
  have HB := hid' hb
  have HS := hid' hS
  have HV : Hid (∀ (W : World) (v8 v11 : Value), Below w.heap.size w W → RwI w.heap.size W v8 d na (fun i => cB (P i)) → W.ownsRow w.heap.size 67 2 v11 nb (ivs (fun i => cB (Qb i)) nb) → Calls Tryz.prog 54 #[v8, v11] W fun e w' => ∃ vl ve, e = .returned (.tuple #[vl, ve]) ∧ ErrIs A w' ve k ⟨#[]⟩ ∧ Below W.heap.size W w' ∧ ((len = 0 ∧ vl = .slice none 0 0) ∨ (len ≠ 0 ∧ len ≤ 4 ∧ ∃ g, vl = .slice (some ⟨g, 0, none⟩) len len ∧ W.heap.size ≤ g ∧ RowI w' g len xs))) := fun W v8 v11 hbW h8 h11 => solve_of A na d nb P Qb k len xs hi h5 hz hna (by omega) hP hQ w.heap.size W (hS.below hbW (Nat.le_refl _)) v8 v11 h8 h11
  have HM : Hid (∀ (W : World) (i : Nat), Below w.heap.size w W → i < na → Calls Tryz.prog 40 #[.agg #[.int .u64 ((P i).1 : Int), .int .u64 ((P i).2 : Int)]] W fun e w' => e = .returned (.agg #[.float .f64 (cB (P i)).1, .float .f64 (cB (P i)).2]) ∧ Below W.heap.size W w') := fun W i hW hi => made_any A _ _ W (hP i hi).1 (hP i hi).2 (hS.below hW (Nat.le_refl _))
  have HN : Hid (∀ (W : World) (i : Nat), Below w.heap.size w W → i < nb → Calls Tryz.prog 40 #[.agg #[.int .u64 ((Qb i).1 : Int), .int .u64 ((Qb i).2 : Int)]] W fun e w' => e = .returned (.agg #[.float .f64 (cB (Qb i)).1, .float .f64 (cB (Qb i)).2]) ∧ Below W.heap.size W w') := fun W i hW hi => made_any A _ _ W (hQ i hi).1 (hQ i hi).2 (hS.below hW (Nat.le_refl _))
  have HZ := hid' hz
  have H5 := hid' h5
  clear ha hb hS hi hP hQ hz h5
  go_enter Tryz.func24, Tryz.ntmps24
  go_wp2_with fail
  go_loopw [8, 24] (fun v x wr => ∃ i : Nat, i ≤ na ∧ x = .int .i64 (i : Int) ∧ RwI w.heap.size wr v d i (fun i => cB (P i)) ∧ Below w.heap.size w wr) (fun _ x _ => na - (intOf x).toNat)
  case atStart => exact ⟨0, Nat.zero_le _, rfl, ⟨w.heap.size, fun _ => .slice none 0 0, by
    have e : rwM d 0 = 0 := by
      unfold rwM
      by_cases h : d = 0
      · subst h; rfl
      · exact Nat.div_eq_of_lt (by omega)
    rw [e]; exact Rws.nil _ _ _ _ _ (Nat.le_refl _)⟩, Below.refl _ _⟩
  case round =>
    obtain ⟨i, hin, rfl, hrw, hbw⟩ := hrel
    have HRW := hid' hrw
    have HBW := hid' hbw
    clear hrw hbw
    by_cases hi : i < na
    · have hd0 : d ≠ 0 := fun h => by have := HZ.out h; omega
      obtain ⟨g, off, rfl, hg, hc⟩ := HA.out.resolve_left (by omega)
      obtain ⟨c1, c2⟩ := hc i hi
      rw [← HBW.out.cell (by exact hg)] at c1 c2
      have hgl : g < wr.heap.size := Nat.lt_of_lt_of_le hg HBW.out.size
      have HMi : Hid (∀ W : World, Below w.heap.size w W → Calls Tryz.prog 40 #[.agg #[.int .u64 ((P i).1 : Int), .int .u64 ((P i).2 : Int)]] W fun e w' => e = .returned (.agg #[.float .f64 (cB (P i)).1, .float .f64 (cB (P i)).2]) ∧ Below W.heap.size W w') := fun W hW => HM.out W i hW hi
      have g1 : decide ((d : Int) > 0) = true := decide_eq_true (by omega)
      have g2 : ((d : Int) == 0) = false := by rw [beq_eq_false_iff_ne]; omega
      have HG := hid hg
      clear hc hg HM HN HV HA HB HS HZ
      have hg : g < wr.heap.size := hgl
      go_upto_if 36 with fail
      go_cut [8] (fun s8 wc => ∃ bl l g c k hl r, RwP w.heap.size wc s8 d i (fun i => cB (P i)) bl l g c k hl r ∧ wc.heap[wr.heap.size]? = some (.cells #[.int .u64 ((P i).1 : Int), .int .u64 ((P i).2 : Int)] 33 (0, 0)) ∧ Below w.heap.size w wc)
      case first =>
        have K0 := hid (blk_new wr (Obj.cells #[.int .u64 ((P i).1 : Int), .int .u64 ((P i).2 : Int)] 33))
        have ha : Below wr.heap.size wr (wr.alloc (Obj.cells #[.int .u64 ((P i).1 : Int), .int .u64 ((P i).2 : Int)] 33)) := (Below.refl _ _).alloc (Nat.le_refl _) _
        have RW := hid (HRW.out.below ha)
        have HB0 := hid (HBW.out.trans (ha.mono HBW.out.size))
        clear HRW HBW ha
        generalize (wr.alloc (Obj.cells #[.int .u64 ((P i).1 : Int), .int .u64 ((P i).2 : Int)] 33)) = W1 at *
        by_cases hm : i % d = 0
        · have g3 : (((i : Int).tmod (d : Int)) == 0) = true := by
            rw [beq_iff_eq, Int.tmod_eq_emod_of_nonneg (by omega)]; omega
          have g4 : (((i : Int) % (d : Int)) == 0) = true := by rw [beq_iff_eq]; omega
          obtain ⟨bl, hv, hrs⟩ := RW.out
          have RS := hid hrs
          have hsz := HB0.out.size
          have hml := rwM_le (d := d) (i := i) H5.out
          obtain ⟨so, sc, rfl⟩ := own_slice hrs.own
          clear hrs RW
          go_wp2_with (first
            | (at_builtin; refine wpList_append_own _ rfl _ _ 85 rfl w.heap.size 86 i0 (.slice none 0 0) 1 24 Tryz.underlying85 hi0 hz0 hz1 hz2 rfl (by decide) _ _ _ rfl (RS.out.own.alloc _) ⟨W1.heap.size, 0, none⟩ 1 1 [.slice none 0 0] rfl rfl one_cell ?c2 ?c3 ?c4 ?c5 ?_)
            | go_in)
          case c2 => first | rfl | (intro u hu; simp at hu; rcases hu with rfl; rfl)
          case c3 => unfold maxLen; omega
          case c4 => omega
          case c5 => first | omega | (simp; omega)
          · intro v' w5 hown' hgrow _
            have PB := hid (own_push RS.out.own HB0.out (Nat.le_refl _) hgrow)
            have ha : Below W1.heap.size W1 (W1.alloc (Obj.cells #[.slice none 0 0] 86)) := (Below.refl _ _).alloc (Nat.le_refl _) _
            obtain ⟨bl', l', g', c', k', hl', r', hp⟩ := RwI.new (C := fun i => cB (P i)) (RS.out.below ha) hd0 H5.out hm (by simp; omega) hown' hgrow
            have PP := hid hp
            have K5 : Hid (w5.heap[wr.heap.size]? = some (.cells #[.int .u64 ((P i).1 : Int), .int .u64 ((P i).2 : Int)] 33 (0, 0))) := by
              have h := blk_below K0.out ha
              show _ = _
              rw [hgrow.block _ (lt_of_row h) ?_]
              · exact h
              · intro hu
                obtain ⟨-, cur, hc⟩ := own_block RS.out.own hu.symm
                rw [blk_below hc ha] at h
                cases h
            clear hown' hgrow RS K0 HB0 hp ha
            go_wp2_with fail
            go_meet
            exact ⟨bl', l', g', c', k', hl', r', PP.out, K5.out, PB.out⟩
        · have g3 : (((i : Int).tmod (d : Int)) == 0) = false := by
            rw [beq_eq_false_iff_ne, Int.tmod_eq_emod_of_nonneg (by omega)]; omega
          have g4 : (((i : Int) % (d : Int)) == 0) = false := by rw [beq_eq_false_iff_ne]; omega
          obtain ⟨bl', l', g', c', k', hl', r', hp⟩ := RW.out.old hd0 H5.out hm
          have PP := hid hp
          clear hp RW
          go_wp2_with fail
          go_meet
          exact ⟨bl', l', g', c', k', hl', r', PP.out, K0.out, HB0.out⟩
      case rest =>
        obtain ⟨bl, l, g', c', k', hl, r, hp, hk, hbc⟩ := hcut
        obtain ⟨ho, hoc, rfl⟩ := own_slice hp.own
        obtain rfl := hp.e
        have PP := hid hp
        have K0 := hid hk
        have HBC := hid hbc
        have cg := hp.cell
        have cf := hp.nf
        have hgl' := hp.glt
        have hli := hp.li
        have h5k := hp.k5
        obtain ⟨x0, x1, -, -⟩ := blk2 hk
        have hlx := lt_of_row hk
        have g4 : decide (((l + 1 : Nat) : Int) > 0) = true := decide_eq_true (by omega)
        have hwl : IntKind.i64.wrap ((l : Nat) : Int) = (l : Int) := by rw [IntKind.wrap_i64]; omega
        have hl2 : 0 ≤ (l : Int) ∧ (l : Int) < (l : Int) + 1 := by omega
        have hl3 : l < l + 1 := by omega
        generalize (P i).1 = p1 at *
        generalize (P i).2 = p2 at *
        generalize hC : (fun i => cB (P i)) = C at *
        have hCi : cB (P i) = C i := by rw [← hC]
        rw [hCi] at HMi
        clear hp hk hbc c1 c2 HRW HBW HG hg
        have iN : Hid (BTt wc wc.drew) := ⟨(Below.refl _ _).drew⟩
        have HBD : Hid (Below w.heap.size w wc.drew) := HBC.out.drew
        go_wp2_with fail
        go_region_law (first
          | (refine step_append_mine rfl _ _ 86 rfl bl 67 i1 (.agg #[.float .f64 0, .float .f64 0]) 2 16 Tryz.underlying86 hi1 hy0 hy1 hy2 rfl (by decide) _ k' (ivs r k') rfl (OW.out.alloc _) ⟨_, 0, none⟩ 1 1 [.float .f64 (C i).1, .float .f64 (C i).2] rfl rfl (two_of_blk (blk_new _ _)) (by simp [Value.oneCell']) (by unfold maxLen; omega) (by omega) (Nat.le_trans PP.out.le (iN.out.alloc _).hb.size) ?_
             intro v' w1 hown' hgrow
             obtain ⟨vo, vc, rfl⟩ := own_slice hown'
             obtain ⟨⟨s1, s2⟩, st⟩ := PP.out.step _ (iN.out.alloc _).hb w1 _ hown' hgrow
             have ST := hid st
             have BW : Hid (Below w.heap.size w w1) := ((HBC.out.trans ((iN.out.alloc _).hb.mono HBC.out.size))).grown hgrow (Nat.le_trans HBC.out.size (iN.out.alloc _).hb.size) (fun k hk => Nat.le_trans PP.out.bb (own_ge OW.out hk))
             clear hown' hgrow OW st)
          | (rw [if_pos (by rfl)]
             go_simp
             go_at_call 40
             refine Calls.mono (HMi.out _ ?_) ?_
             · exact HBD.out
             rintro e v0 ⟨rfl, hbk⟩
             have iN : Hid (BTt wc v0) := iN.out.below hbk
             have OW : Hid (v0.ownsRow bl 67 2 (.slice ho k' hoc) k' (ivs r k')) := ownsRow_mono PP.out.own iN.out.hb (Nat.le_refl _)
             have cg : v0.cell? ⟨g', l, none⟩ = some (.slice ho k' hoc) := by rw [iN.out.hb.cell (by exact hgl')]; exact PP.out.cell
             have hgl2 : g' < v0.heap.size := Nat.lt_of_lt_of_le hgl' iN.out.hb.size
             clear hbk))
        all_goals (go_wp2; go_roundw)
        all_goals subst hC
        all_goals first | exact ⟨i + 1, by omega, by go_num, ST.out, BW.out.setCell (by exact PP.out.gb) _⟩ | ((repeat apply Exists.intro); exact ⟨⟨i + 1, by omega, by go_num, ST.out, BW.out.setCell (by exact PP.out.gb) _⟩, rfl⟩) | (simp [intOf]; omega)
    · obtain rfl : i = na := by omega
      have HW2 := hid HBW.out
      clear HA HM HZ H5
      obtain ⟨ws, rfl⟩ : ∃ ws, ws = wr := ⟨_, rfl⟩
      go_wp2_with fail
      go_loopw [11, 61] (fun v x wy => ∃ j : Nat, j ≤ nb ∧ x = .int .i64 (j : Int) ∧ wy.ownsRow ws.heap.size 67 2 v j (ivs (fun i => cB (Qb i)) j) ∧ Below ws.heap.size ws wy) (fun _ x _ => nb - (intOf x).toNat)
      case atStart => exact ⟨0, Nat.zero_le _, rfl, World.ownsRow_nil _ _ _ _, Below.refl _ _⟩
      case round =>
        obtain ⟨j, hj1, rfl, hown, hb2⟩ := hrel
        have HO := hid hown
        have HB2 := hid hb2
        clear hown hb2
        by_cases hj : j < nb
        · obtain ⟨g, off, rfl, hg, hc⟩ := HB.out.resolve_left (by omega)
          have hbw : Below w.heap.size w wr := HW2.out.trans (HB2.out.mono HW2.out.size)
          obtain ⟨c1, c2⟩ := hc j hj
          rw [← hbw.cell (by exact hg)] at c1 c2
          have hgl : g < wr.heap.size := Nat.lt_of_lt_of_le hg hbw.size
          have HNj : Hid (∀ W : World, Below wr.heap.size wr W → Calls Tryz.prog 40 #[.agg #[.int .u64 ((Qb j).1 : Int), .int .u64 ((Qb j).2 : Int)]] W fun e w' => e = .returned (.agg #[.float .f64 (cB (Qb j)).1, .float .f64 (cB (Qb j)).2]) ∧ Below W.heap.size W w') := fun W hW => HN.out W j (hbw.trans (hW.mono hbw.size)) hj
          have HX : Hid (ivs (fun i => cB (Qb i)) (j + 1) = ivs (fun i => cB (Qb i)) j ++ [.float .f64 (cB (Qb j)).1, .float .f64 (cB (Qb j)).2]) := ivs_push _ j
          generalize (Qb j).1 = y1 at *
          generalize (Qb j).2 = y2 at *
          generalize (cB (Qb j)).1 = z1 at *
          generalize (cB (Qb j)).2 = z2 at *
          clear hc hg HN HV HS HB hbw HRW HBW HW2
          go_wp2_with fail
          refine Calls.mono (HNj.out _ ((Below.refl _ _).alloc (Nat.le_refl _) _)) ?_
          rintro e w1 ⟨rfl, hb1⟩
          have ha : Below wr.heap.size wr (wr.alloc (Obj.cells #[.int .u64 (y1 : Int), .int .u64 (y2 : Int)] 33)) := (Below.refl _ _).alloc (Nat.le_refl _) _
          have hw1 : Below wr.heap.size wr w1 := ha.trans (hb1.mono ha.size)
          have HO := hid (ownsRow_mono HO.out hw1 (Nat.le_refl _))
          have HB2 := hid (HB2.out.trans (hw1.mono HB2.out.size))
          have hsz := HB2.out.size
          clear hb1 ha hw1 c1 c2 HNj
          go_wp2_with (first
            | (at_builtin; refine wpList_append_own _ rfl _ _ 86 rfl ws.heap.size 67 i1 (.agg #[.float .f64 0, .float .f64 0]) 2 16 Tryz.underlying86 hi1 hy0 hy1 hy2 rfl (by decide) _ _ _ rfl (HO.out.alloc _) ⟨w1.heap.size, 0, none⟩ 1 1 [.float .f64 z1, .float .f64 z2] rfl rfl two_cells ?c2 ?c3 ?c4 ?c5 ?_)
            | go_in)
          case c2 => intro u hu; simp at hu; rcases hu with rfl | rfl <;> rfl
          case c3 => unfold maxLen; omega
          case c4 => omega
          case c5 => first | omega | (simp; omega)
          · intro v' w2 hown' hgrow _
            have PB := hid (own_push HO.out HB2.out (Nat.le_refl _) hgrow)
            rw [← HX.out] at hown'
            have HO2 := hid hown'
            clear hown' hgrow HO HB2
            go_wp2
            go_roundw
            case rel => exact ⟨j + 1, by omega, by go_num, HO2.out, PB.out⟩
            case measure => simp [intOf]; omega
        · obtain rfl : j = nb := by omega
          have hbw : Below w.heap.size w wr := HW2.out.trans (HB2.out.mono HW2.out.size)
          have HSV := hid (HV.out wr _ _ hbw (HRW.out.below HB2.out) (ownsRow_mono HO.out (Below.refl _ _) HW2.out.size))
          have HBB := hid hbw
          clear hbw HV HRW HBW HW2 HO HB2 HB HN
          go_wp2_with fail
          refine Calls.mono HSV.out ?_
          rintro e w3 ⟨vl, ve, rfl, herr, hb3, hor⟩
          have HB3 := hid (HBB.out.trans (hb3.mono HBB.out.size))
          have HCD := hid (code_any A ve k ⟨#[]⟩ w3 (HS.out.below HB3.out (Nat.le_refl _)) herr)
          have HOR := hid hor
          have HBS := hid HBB.out.size
          clear herr hb3 hor HSV HS HBB
          go_wp2_with fail
          refine Calls.mono HCD.out ?_
          rintro e w4 ⟨rfl, hb4⟩
          have HB4 := hid (HB3.out.trans (hb4.mono HB3.out.size))
          have B34 := hid hb4
          clear hb4 HCD HB3
          rcases HOR.out with ⟨rfl, rfl⟩ | ⟨hl0, hl4, gf, rfl, hgf, hrow⟩
          · clear HOR
            go_wp2_with fail
            go_loopw [18, 84] (fun v x wy => v = .slice none 0 0 ∧ x = .int .i64 0 ∧ wy = w4) (fun _ _ _ => 0)
            case atStart => exact ⟨rfl, rfl, rfl⟩
            case round =>
              obtain ⟨rfl, rfl, rfl⟩ := hrel
              go_wp2_with fail
              go_loopw [96] (fun x wy => x = .int .i64 0 ∧ wy = wr) (fun _ _ => 0)
              case atStart => exact ⟨rfl, rfl⟩
              case round =>
                obtain ⟨rfl, rfl⟩ := hrel
                go_wp2
                refine bodyPost_ret (v := .tuple #[.slice none 0 0, .int .i64 (k : Int)]) (by simp [results, Tryz.results24, go_sem]) rfl ?_
                first | exact ⟨none, 0, rfl, .inl rfl, Nat.le_refl _, fun _ => ⟨rfl, rfl⟩, HB4.out⟩ | exact ⟨none, 0, rfl, .inl rfl, ⟨rfl, rfl⟩, HB4.out⟩
          · have RW3 := hid (hrow.below B34.out)
            have HGF : Hid (w.heap.size ≤ gf) := Nat.le_trans HBS.out hgf
            have LT := hid hrow.lt
            clear HOR hrow hgf HBS
            have HW4 := hid HB4.out.size
            go_wp2_with fail
            go_loopw [18, 84] (fun v x wy => ∃ j : Nat, j ≤ len ∧ x = .int .i64 (j : Int) ∧ wy.ownsRow w4.heap.size 33 2 v j (bxs xs j) ∧ Below w4.heap.size w4 wy) (fun _ x _ => len - (intOf x).toNat)
            case atStart => exact ⟨0, Nat.zero_le _, rfl, World.ownsRow_nil _ _ _ _, Below.refl _ _⟩
            case round =>
              obtain ⟨j, hj1, rfl, hown, hb5⟩ := hrel
              have HO := hid hown
              have HB5 := hid hb5
              clear hown hb5
              by_cases hj : j < len
              · obtain ⟨c1, c2, -, -⟩ := (RW3.out.below HB5.out).cell hj
                have hgl : gf < wr.heap.size := (RW3.out.below HB5.out).lt
                have HX : Hid (bxs xs (j + 1) = bxs xs j ++ [.int .u64 ((xs j).1 : Int), .int .u64 ((xs j).2 : Int)]) := bxs_push xs j
                generalize (xs j).1 = y1 at *
                generalize (xs j).2 = y2 at *
                clear RW3 HGF LT HB4 B34
                go_wp2_with fail
                refine Calls.mono (box_any y1 y2 _) ?_
                rintro e w5 ⟨rfl, hb6⟩
                have ha : Below wr.heap.size wr (wr.alloc (Obj.cells #[.float .f64 y1, .float .f64 y2] 67)) := (Below.refl _ _).alloc (Nat.le_refl _) _
                have hw1 : Below wr.heap.size wr w5 := ha.trans (hb6.mono ha.size)
                have HO := hid (ownsRow_mono HO.out hw1 (Nat.le_refl _))
                have HB5 := hid (HB5.out.trans (hw1.mono HB5.out.size))
                have hsz := HB5.out.size
                clear hb6 ha hw1 c1 c2
                go_wp2_with (first
                  | (at_builtin; refine wpList_append_own _ rfl _ _ 41 rfl w4.heap.size 33 i2 (.agg #[.int .u64 0, .int .u64 0]) 2 16 Tryz.underlying41 hi2 hx0 hx1 hx2 rfl (by decide) _ _ _ rfl (HO.out.alloc _) ⟨w5.heap.size, 0, none⟩ 1 1 [.int .u64 (y1 : Int), .int .u64 (y2 : Int)] rfl rfl two_cells ?c2 ?c3 ?c4 ?c5 ?_)
                  | go_in)
                case c2 => intro u hu; simp at hu; rcases hu with rfl | rfl <;> rfl
                case c3 => unfold maxLen; omega
                case c4 => omega
                case c5 => first | omega | (simp; omega)
                · intro v' w6 hown' hgrow _
                  have PB := hid (own_push HO.out HB5.out (Nat.le_refl _) hgrow)
                  rw [← HX.out] at hown'
                  have HO2 := hid hown'
                  clear hown' hgrow HO HB5
                  go_wp2
                  go_roundw
                  case rel => exact ⟨j + 1, by omega, by go_num, HO2.out, PB.out⟩
                  case measure => simp [intOf]; omega
              · obtain rfl : len = j := by omega
                obtain ⟨bo', bc', rfl, hc', -⟩ := BxV.of_bxs HO.out
                have HC' := hid hc'
                clear hc'
                have RW6 := hid (RW3.out.below HB5.out)
                have HB6 := hid (HB4.out.trans (HB5.out.mono HB4.out.size))
                have hgne : Hid (gf < w4.heap.size) := Nat.lt_of_lt_of_le LT.out B34.out.size
                obtain ⟨w6, rfl⟩ : ∃ w6, w6 = wr := ⟨_, rfl⟩
                clear RW3 HB4 B34 HB5 LT
                go_wp2_with fail
                go_loopw [96] (fun x wy => ∃ (j : Nat) (r : Nat → Nat × Nat), j ≤ len ∧ x = .int .i64 (j : Int) ∧ RowI wy gf len r ∧ wy.ownsRow w4.heap.size 33 2 (.slice bo' len bc') len (bxs xs len) ∧ Below w.heap.size w wy) (fun x _ => len - (intOf x).toNat)
                case atStart => exact ⟨0, xs, Nat.zero_le _, rfl, RW6.out, HO.out, HB6.out⟩
                case round =>
                  obtain ⟨j, r, hj1, rfl, hrow, hown, hb7⟩ := hrel
                  have RW7 := hid hrow
                  have HO7 := hid hown
                  have HB7 := hid hb7
                  clear hrow hown hb7 HO HB6 RW6
                  by_cases hj : j < len
                  · obtain ⟨c1, c2, f1, f2⟩ := RW7.out.cell hj
                    have hgl := RW7.out.lt
                    have RW8 := hid (RW7.out.set hj 0 0)
                    have HO8 : Hid (((wr.setCell ⟨gf, j * 2, none⟩ (.float .f64 0)).setCell ⟨gf, j * 2 + 1, none⟩ (.float .f64 0)).ownsRow w4.heap.size 33 2 (.slice bo' len bc') len (bxs xs len)) := own_grown (own_grown HO7.out (grown_set _ _ _ _) (fun k hk e => by cases e; have := (own_block HO7.out hk).1; have := hgne.out; omega)) (grown_set _ _ _ _) (fun k hk e => by cases e; have := (own_block HO7.out hk).1; have := hgne.out; omega)
                    have HB8 : Hid (Below w.heap.size w ((wr.setCell ⟨gf, j * 2, none⟩ (.float .f64 0)).setCell ⟨gf, j * 2 + 1, none⟩ (.float .f64 0))) := (HB7.out.setCell (by exact HGF.out) _).setCell (by exact HGF.out) _
                    clear RW7 HO7 HB7
                    go_wp2
                    go_roundw
                    case rel => exact ⟨j + 1, _, by omega, by go_num, RW8.out, HO8.out, HB8.out⟩
                    case measure => simp [intOf]; omega
                  · obtain ⟨bo2, bc2, e2, -, hv'⟩ := BxV.of_bxs HO7.out
                    cases e2
                    have HV' := hid hv'
                    clear hv' HO7 RW7
                    go_wp2
                    refine bodyPost_ret (v := .tuple #[.slice bo' len bc', .int .i64 (k : Int)]) (by simp [results, Tryz.results24, go_sem]) rfl ?_
                    exact ⟨bo', bc', rfl, HV'.out, HC'.out, fun h => absurd h hl0, HB7.out⟩
end Go.Proofs.YtonhpkigoplmaaaGreatDoor
namespace Go.Proofs.YtonhpkigoplmaaaGreatDoor
open Go.RowKit Go.Extern Ieee

/-- The cells of n ints. -/
def ints (X : Nat → Int) (n : Nat) : List Value := (List.range n).map fun j => .int .i64 (X j)
theorem ints_push (X : Nat → Int) (n : Nat) (v : Int) : ints (fun j => if j = n then v else X j) (n + 1) = ints X n ++ [.int .i64 v] := by
  unfold ints
  rw [List.range_succ, List.map_append]
  congr 1
  · refine List.map_congr_left fun j hj => ?_
    have := List.mem_range.1 hj
    simp only
    rw [if_neg (by omega)]
  · simp
/-- n ints in memory. -/
def IntV (W : World) (v : Value) (n : Nat) (X : Nat → Int) : Prop := ∃ ao c, v = .slice ao n c ∧ (n = 0 ∨ ∃ g, ao = some ⟨g, 0, none⟩ ∧ g < W.heap.size ∧ ∀ j, j < n → W.cell? ⟨g, j, none⟩ = some (.int .i64 (X j)))
theorem IntV.below {W W' : World} {v : Value} {n : Nat} {X : Nat → Int} (h : IntV W v n X) (hb : Below W.heap.size W W') : IntV W' v n X := by
  obtain ⟨ao, c, e, h⟩ := h
  refine ⟨ao, c, e, ?_⟩
  rcases h with h | ⟨g, e2, hg, h⟩
  · exact .inl h
  · exact .inr ⟨g, e2, Nat.lt_of_lt_of_le hg hb.size, fun j hj => by rw [hb.cell (by exact hg)]; exact h j hj⟩
theorem IntV.of_owns {W : World} {b n : Nat} {v : Value} {X : Nat → Int} (h : W.ownsRow b 3 1 v n (ints X n)) : IntV W v n X := by
  obtain ⟨-, ⟨rfl, h0⟩ | ⟨g, cap, cur, rfl, hb, k1, k2, k3, k4, k5⟩⟩ := h
  · exact ⟨none, 0, by rw [h0], .inl h0⟩
  · refine ⟨_, cap, rfl, .inr ⟨g, rfl, lt_of_row k1, fun j hj => ?_⟩⟩
    rw [cell_of_cur k1, ← Array.getElem?_toList, ← List.getElem?_take_of_lt (show j < n * 1 by omega), k5]
    unfold ints
    rw [List.getElem?_map, List.getElem?_range hj]
    rfl

theorem bxI_push (K : Nat → Int) (m : Nat) (k : Int) : bxs (bxI (fun j => if j = m then k else K j)) (m + 1) = bxs (bxI K) m ++ [.int .u64 (fl k : Int), .int .u64 (fh k : Int)] := by
  rw [bxs_push]
  have e : bxI (fun j => if j = m then k else K j) m = (fl k, fh k) := by unfold bxI; simp
  rw [e]
  congr 1
  unfold bxs
  congr 1
  refine List.map_congr_left fun j hj => ?_
  have := List.mem_range.1 hj
  unfold bxI
  simp only
  rw [if_neg (by omega)]

/-- The two lists of boxes. -/
structure BaM (w2 wr : World) (va vb : Value) (na nb : Nat) (K T : Nat → Int) : Prop where
  a : wr.ownsRow w2.heap.size 33 2 va na (bxs (bxI K) na)
  b : wr.ownsRow w2.heap.size 33 2 vb nb (bxs (bxI T) nb)
  sep : ∀ g, va.ownBlock = some g → vb.ownBlock ≠ some g
  hb : Below w2.heap.size w2 wr
theorem BaM.below {w2 wr W : World} {va vb : Value} {na nb : Nat} {K T : Nat → Int} (s : BaM w2 wr va vb na nb K T) (hb : Below wr.heap.size wr W) : BaM w2 W va vb na nb K T := ⟨ownsRow_mono s.a hb (Nat.le_refl _), ownsRow_mono s.b hb (Nat.le_refl _), s.sep, s.hb.trans (hb.mono s.hb.size)⟩
theorem BaM.pushA {w2 wr W1 : World} {va va' vb : Value} {na nb : Nat} {K T : Nat → Int} {k : Int} {o : Obj} (s : BaM w2 wr va vb na nb K T) (ho : W1.ownsRow w2.heap.size 33 2 va' (na + 1) (bxs (bxI K) na ++ [.int .u64 (fl k : Int), .int .u64 (fh k : Int)])) (hg : (wr.alloc o).grownBy W1 va.ownBlock) (hbk : va'.ownBlock = va.ownBlock ∨ va'.ownBlock = some (wr.alloc o).heap.size) : BaM w2 W1 va' vb (na + 1) nb (fun j => if j = na then k else K j) T := by
  have s := s.below ((Below.refl _ _).alloc (Nat.le_refl _) o)
  refine ⟨by rw [bxI_push]; exact ho, own_grown s.b hg (fun j hj hc => s.sep j hc hj), fun g hgv hc => ?_, s.hb.grown hg s.hb.size (fun _ hk => (own_block s.a hk).1)⟩
  rcases hbk with h | h
  · rw [h] at hgv; exact s.sep g hgv hc
  · rw [h] at hgv
    cases hgv
    obtain ⟨-, cur, e⟩ := own_block s.b hc
    have := lt_of_row e
    omega
theorem BaM.pushB {w2 wr W1 : World} {va vb vb' : Value} {na nb : Nat} {K T : Nat → Int} {k : Int} {o : Obj} (s : BaM w2 wr va vb na nb K T) (ho : W1.ownsRow w2.heap.size 33 2 vb' (nb + 1) (bxs (bxI T) nb ++ [.int .u64 (fl k : Int), .int .u64 (fh k : Int)])) (hg : (wr.alloc o).grownBy W1 vb.ownBlock) (hbk : vb'.ownBlock = vb.ownBlock ∨ vb'.ownBlock = some (wr.alloc o).heap.size) : BaM w2 W1 va vb' na (nb + 1) K (fun j => if j = nb then k else T j) := by
  have s := s.below ((Below.refl _ _).alloc (Nat.le_refl _) o)
  refine ⟨own_grown s.a hg (fun j hj hc => s.sep j hj hc), by rw [bxI_push]; exact ho, fun g hgv hc => ?_, s.hb.grown hg s.hb.size (fun _ hk => (own_block s.b hk).1)⟩
  rcases hbk with h | h
  · rw [h] at hc; exact s.sep g hgv hc
  · rw [h] at hc
    cases hc
    obtain ⟨-, cur, e⟩ := own_block s.a hgv
    have := lt_of_row e
    omega

/-- The right sides of the first i rows. -/
def TRel (n : Nat) (X K T : Nat → Int) (i : Nat) : Prop := ∀ r, r < i → T r = sumI n (fun j => K (n * r + j) * X j)
theorem TRel.updK {n : Nat} {X K T : Nat → Int} {i m : Nat} {k : Int} (h : TRel n X K T i) (hm : n * i ≤ m) : TRel n X (fun j => if j = m then k else K j) T i := by
  intro r hr
  rw [h r hr]
  refine sumI_congr fun j hj => ?_
  have h1 : n * (r + 1) ≤ n * i := Nat.mul_le_mul_left n (by omega)
  have h2 : n * (r + 1) = n * r + n := Nat.mul_succ n r
  simp only
  rw [if_neg (by omega)]
theorem TRel.push {n : Nat} {X K T : Nat → Int} {i : Nat} {t : Int} (h : TRel n X K T i) (ht : t = sumI n (fun j => K (n * i + j) * X j)) : TRel n X K (fun j => if j = i then t else T j) (i + 1) := by
  intro r hr
  by_cases hri : r = i
  · subst hri; simp only [if_true]; exact ht
  · simp only; rw [if_neg hri]; exact h r (by omega)
def EntU (n : Nat) (K : Nat → Int) (m : Nat) : Prop := ∀ m', m' < m → EntB n m' (K m')
theorem EntU.push {n : Nat} {K : Nat → Int} {m : Nat} {k : Int} (h : EntU n K m) (hk : EntB n m k) : EntU n (fun j => if j = m then k else K j) (m + 1) := by
  intro m' hm'
  by_cases e : m' = m
  · subst e; simp only [if_true]; exact hk
  · simp only; rw [if_neg e]; exact h m' (by omega)
/-- The sum so far. -/
theorem sum_push {n i j : Nat} {X K : Nat → Int} {k : Int} : sumI (j + 1) (fun c => (if n * i + c = n * i + j then k else K (n * i + c)) * X c) = sumI j (fun c => K (n * i + c) * X c) + k * X j := by
  show sumI j _ + (if n * i + j = n * i + j then k else K (n * i + j)) * X j = _
  rw [if_pos rfl]
  congr 1
  exact sumI_congr fun c hc => by rw [if_neg (by omega)]
theorem sum_small {n i j : Nat} {X K : Nat → Int} (hn : n ≤ 4) (hj : j ≤ n) (hK : EntU n K (n * i + j)) (hX : ∀ c, c < n → (X c).natAbs ≤ 256) : (sumI j (fun c => K (n * i + c) * X c)).natAbs ≤ 105472 := by
  have := sumI_abs (n := j) (f := fun c => K (n * i + c) * X c) (B := 26368) (fun c hc => by
    rw [Int.natAbs_mul]
    have := Nat.mul_le_mul (entB_le (hK (n * i + c) (by omega))) (hX c (by omega))
    omega)
  have h4 : j * 26368 ≤ 4 * 26368 := Nat.mul_le_mul_right _ (by omega)
  omega
end Go.Proofs.YtonhpkigoplmaaaGreatDoor
namespace Go.Proofs.YtonhpkigoplmaaaGreatDoor
open Go.RowKit Go.Extern Ieee
attribute [local go_sem] run_store_float

theorem ofInt_nat (n : Int) : (BitVec.ofInt 64 n).toNat = (n % 18446744073709551616).toNat := by
  rw [BitVec.toNat_ofInt]; rfl

theorem i64_low (n : Int) : bits .and .i64 n 2047 = n % 2048 := by
  show IntKind.i64.wrap ((BitVec.ofInt 64 n &&& BitVec.ofInt 64 2047).toNat : Int) = _
  rw [BitVec.toNat_and, ofInt_nat, ofInt_nat, IntKind.wrap_i64, show ((2047 : Int) % 18446744073709551616).toNat = 2047 by decide]
  have : (n % 18446744073709551616).toNat &&& 2047 = (n % 18446744073709551616).toNat % 2048 := Nat.and_two_pow_sub_one_eq_mod _ 11
  rw [this]
  omega

theorem i64_high2 (n : Int) (h1 : -9223372036854775808 ≤ n) (h2 : n < 9223372036854775808) : bits .andNot .i64 n 2047 = n - n % 2048 := by
  show IntKind.i64.wrap ((BitVec.ofInt 64 n &&& ~~~BitVec.ofInt 64 2047).toNat : Int) = _
  rw [BitVec.toNat_and, BitVec.toNat_not, ofInt_nat, ofInt_nat, IntKind.wrap_i64, show ((2047 : Int) % 18446744073709551616).toNat = 2047 by decide, show 2 ^ 64 - 1 - 2047 = 18446744073709549568 by decide, nat_hi64_11]
  omega

set_option maxHeartbeats 400000 in
theorem aroundWhole_any (n : Int) (w : World) (h1 : -9223372036854775808 ≤ n) (h2 : n < 9223372036854775808) :
    Calls Tryz.prog 128 #[.int .i64 n] w fun e w' => e = .returned (.agg #[.float .f64 (wholeLo n), .float .f64 (wholeHi n)]) ∧ Below w.heap.size w w' := by
  have HL : Hid (floatOfInt FloatKind.f64 (bits BinOp.and IntKind.i64 n 2047) = fd 0 (n % 2048)) := by show _ = _; rw [i64_low]; rfl
  have HH : Hid (floatOfInt FloatKind.f64 (bits BinOp.andNot IntKind.i64 n 2047) = fd 0 (n - n % 2048)) := by show _ = _; rw [i64_high2 n h1 h2]; rfl
  have HS : Hid (∀ w, Calls Tryz.prog 89 #[.float .f64 (fd 0 (n - n % 2048)), .float .f64 (fd 0 (n % 2048))] w fun e w' => e = .returned (.agg #[.float .f64 (wholeLo n), .float .f64 (wholeHi n)]) ∧ Below w.heap.size w w') := by
    intro w
    have p63 : (2 : Nat) ^ 63 = 9223372036854775808 := by decide
    exact sum_whole n _ _ w (by rw [p63]; omega) (by omega) (by rw [p63]; omega) (by omega) (by omega)
  clear h1 h2
  go_enter Tryz.func128, Tryz.ntmps128
  go_wp2_with fail
  rw [HL.out, HH.out]
  refine Calls.mono (HS.out _) ?_
  rintro e w1 ⟨rfl, hb1⟩
  have B0 := blk_below (blk_new w _) hb1
  obtain ⟨k0, k1, k2, k3⟩ := blk2 B0
  have hz : w.heap.size < w1.heap.size := (Array.getElem?_eq_some_iff.1 B0).1
  have HB1 : Hid (Below w.heap.size w w1) := ((Below.refl _ _).alloc (Nat.le_refl _) _).trans (hb1.mono (by simp))
  have HB0 : Hid (w1.heap[w.heap.size]? = _) := B0
  clear hb1 B0 HS HL HH
  go_wp2
  obtain ⟨c10, c11, -, -⟩ := blk2 (blk_old (blk_store2 (a := .float .f64 (wholeLo n)) (b := .float .f64 (wholeHi n)) HB0.out) (Obj.cells #[Value.float FloatKind.f64 (wholeLo n), Value.float FloatKind.f64 (wholeHi n)] 130))
  refine bodyPost_ret (v := .agg #[.float .f64 (wholeLo n), .float .f64 (wholeHi n)]) (by simp [results, Tryz.results128, go_sem, c10, c11]) rfl ?_
  exact ⟨rfl, ((HB1.out.setCell (by simp) _).setCell (by simp) _).alloc (by have := HB1.out.size; simpa using this) _⟩
end Go.Proofs.YtonhpkigoplmaaaGreatDoor
namespace Go.Proofs.YtonhpkigoplmaaaGreatDoor
open Go.RowKit Go.Extern Ieee
attribute [local go_sem] run_store_float

theorem halves_int (w : World) : Calls Tryz.prog 127 #[] w fun e w' => e = .returned (.bool false) ∧ w' = w := by
  go_enter Tryz.func127, Tryz.ntmps127
  go_wp2
  go_ret
  exact ⟨rfl, rfl⟩

theorem halves_int32 (w : World) : Calls Tryz.prog 129 #[] w fun e w' => e = .returned (.bool false) ∧ w' = w := by
  go_enter Tryz.func129, Tryz.ntmps129
  go_wp2
  go_ret
  exact ⟨rfl, rfl⟩

theorem halves_int64 (w : World) : Calls Tryz.prog 130 #[] w fun e w' => e = .returned (.bool false) ∧ w' = w := by
  go_enter Tryz.func130, Tryz.ntmps130
  go_wp2
  go_ret
  exact ⟨rfl, rfl⟩

theorem halves_small (w : World) : Calls Tryz.prog 132 #[] w fun e w' => e = .returned (.bool false) ∧ w' = w := by
  go_enter Tryz.func132, Tryz.ntmps132
  go_wp2
  go_ret
  exact ⟨rfl, rfl⟩

theorem one_f : floatOfInt FloatKind.f64 1 = 4607182418800017408 := by kernel_rfl
theorem half_f : floatBits .quo .f64 4607182418800017408 4611686018427387904 = some 4602678819172646912 := by kernel_rfl
theorem half_ne : (FloatKind.f64.format.order 4602678819172646912 0 != some Ordering.eq) = true := by kernel_rfl

theorem halves_float64 (w : World) : Calls Tryz.prog 131 #[] w fun e w' => e = .returned (.bool true) ∧ w' = w := by
  have g : ∀ w, (binOp .quo 65 (.float .f64 4607182418800017408) (.float .f64 4611686018427387904)).run Tryz.prog w = .ok (.float .f64 4602678819172646912) w := fun w => run_float_arith w .quo _ .f64 _ _ _ half_f
  have o := one_f
  have hn := half_ne
  go_enter Tryz.func131, Tryz.ntmps131
  go_wp2
  go_ret
  exact ⟨rfl, rfl⟩

theorem halves_real (w : World) : Calls Tryz.prog 133 #[] w fun e w' => e = .returned (.bool true) ∧ w' = w := by
  have g : ∀ w, (binOp .quo 117 (.float .f64 4607182418800017408) (.float .f64 4611686018427387904)).run Tryz.prog w = .ok (.float .f64 4602678819172646912) w := fun w => run_float_arith w .quo _ .f64 _ _ _ half_f
  have o := one_f
  have hn := half_ne
  go_enter Tryz.func133, Tryz.ntmps133
  go_wp2
  go_ret
  exact ⟨rfl, rfl⟩

theorem exact_int (x : Int) (w : World) (h1 : -9223372036854775808 ≤ x) (h2 : x < 9223372036854775808) :
    Calls Tryz.prog 72 #[.int .i64 x] w fun e w' => e = .returned (.tuple #[.agg #[.float .f64 (wholeLo x), .float .f64 (wholeHi x)], .nilIface]) ∧ Below w.heap.size w w' := by
  have HA : Hid (∀ w, Calls Tryz.prog 128 #[.int .i64 x] w fun e w' => e = .returned (.agg #[.float .f64 (wholeLo x), .float .f64 (wholeHi x)]) ∧ Below w.heap.size w w') := fun w => aroundWhole_any x w h1 h2
  have hw : wrap64 x = x := by unfold wrap64; omega
  clear h1 h2
  go_enter Tryz.func72, Tryz.ntmps72
  go_wp2_with fail
  refine (halves_int _).mono ?_
  rintro e w' ⟨rfl, rfl⟩
  go_wp2_with fail
  refine Calls.mono (HA.out _) ?_
  rintro e w1 ⟨rfl, hb1⟩
  have B0 := blk_below (blk_new w _) hb1
  obtain ⟨k0, k1, k2, k3⟩ := blk2 B0
  have HB1 : Hid (Below w.heap.size w w1) := ((Below.refl _ _).alloc (Nat.le_refl _) _).trans (hb1.mono (by simp))
  have HB0 : Hid (w1.heap[w.heap.size]? = _) := B0
  clear hb1 B0 HA
  go_wp2
  refine bodyPost_ret (v := .tuple #[.agg #[.float .f64 (wholeLo x), .float .f64 (wholeHi x)], .nilIface]) (by simp [results, Tryz.results72, go_sem, k0, k1]) rfl ?_
  exact ⟨rfl, (HB1.out.setCell (by simp) _).setCell (by simp) _⟩

theorem exact_int32 (x : Int) (w : World) (h1 : -9223372036854775808 ≤ x) (h2 : x < 9223372036854775808) :
    Calls Tryz.prog 73 #[.int .i32 x] w fun e w' => e = .returned (.tuple #[.agg #[.float .f64 (wholeLo x), .float .f64 (wholeHi x)], .nilIface]) ∧ Below w.heap.size w w' := by
  have HA : Hid (∀ w, Calls Tryz.prog 128 #[.int .i64 x] w fun e w' => e = .returned (.agg #[.float .f64 (wholeLo x), .float .f64 (wholeHi x)]) ∧ Below w.heap.size w w') := fun w => aroundWhole_any x w h1 h2
  have hw : wrap64 x = x := by unfold wrap64; omega
  clear h1 h2
  go_enter Tryz.func73, Tryz.ntmps73
  go_wp2_with fail
  refine (halves_int32 _).mono ?_
  rintro e w' ⟨rfl, rfl⟩
  go_wp2_with fail
  refine Calls.mono (HA.out _) ?_
  rintro e w1 ⟨rfl, hb1⟩
  have B0 := blk_below (blk_new w _) hb1
  obtain ⟨k0, k1, k2, k3⟩ := blk2 B0
  have HB1 : Hid (Below w.heap.size w w1) := ((Below.refl _ _).alloc (Nat.le_refl _) _).trans (hb1.mono (by simp))
  have HB0 : Hid (w1.heap[w.heap.size]? = _) := B0
  clear hb1 B0 HA
  go_wp2
  refine bodyPost_ret (v := .tuple #[.agg #[.float .f64 (wholeLo x), .float .f64 (wholeHi x)], .nilIface]) (by simp [results, Tryz.results73, go_sem, k0, k1]) rfl ?_
  exact ⟨rfl, (HB1.out.setCell (by simp) _).setCell (by simp) _⟩

theorem exact_int64 (x : Int) (w : World) (h1 : -9223372036854775808 ≤ x) (h2 : x < 9223372036854775808) :
    Calls Tryz.prog 74 #[.int .i64 x] w fun e w' => e = .returned (.tuple #[.agg #[.float .f64 (wholeLo x), .float .f64 (wholeHi x)], .nilIface]) ∧ Below w.heap.size w w' := by
  have HA : Hid (∀ w, Calls Tryz.prog 128 #[.int .i64 x] w fun e w' => e = .returned (.agg #[.float .f64 (wholeLo x), .float .f64 (wholeHi x)]) ∧ Below w.heap.size w w') := fun w => aroundWhole_any x w h1 h2
  have hw : wrap64 x = x := by unfold wrap64; omega
  clear h1 h2
  go_enter Tryz.func74, Tryz.ntmps74
  go_wp2_with fail
  refine (halves_int64 _).mono ?_
  rintro e w' ⟨rfl, rfl⟩
  go_wp2_with fail
  refine Calls.mono (HA.out _) ?_
  rintro e w1 ⟨rfl, hb1⟩
  have B0 := blk_below (blk_new w _) hb1
  obtain ⟨k0, k1, k2, k3⟩ := blk2 B0
  have HB1 : Hid (Below w.heap.size w w1) := ((Below.refl _ _).alloc (Nat.le_refl _) _).trans (hb1.mono (by simp))
  have HB0 : Hid (w1.heap[w.heap.size]? = _) := B0
  clear hb1 B0 HA
  go_wp2
  refine bodyPost_ret (v := .tuple #[.agg #[.float .f64 (wholeLo x), .float .f64 (wholeHi x)], .nilIface]) (by simp [results, Tryz.results74, go_sem, k0, k1]) rfl ?_
  exact ⟨rfl, (HB1.out.setCell (by simp) _).setCell (by simp) _⟩

theorem exact_small (x : Int) (w : World) (h1 : -9223372036854775808 ≤ x) (h2 : x < 9223372036854775808) :
    Calls Tryz.prog 76 #[.int .i32 x] w fun e w' => e = .returned (.tuple #[.agg #[.float .f64 (wholeLo x), .float .f64 (wholeHi x)], .nilIface]) ∧ Below w.heap.size w w' := by
  have HA : Hid (∀ w, Calls Tryz.prog 128 #[.int .i64 x] w fun e w' => e = .returned (.agg #[.float .f64 (wholeLo x), .float .f64 (wholeHi x)]) ∧ Below w.heap.size w w') := fun w => aroundWhole_any x w h1 h2
  have hw : wrap64 x = x := by unfold wrap64; omega
  clear h1 h2
  go_enter Tryz.func76, Tryz.ntmps76
  go_wp2_with fail
  refine (halves_small _).mono ?_
  rintro e w' ⟨rfl, rfl⟩
  go_wp2_with fail
  refine Calls.mono (HA.out _) ?_
  rintro e w1 ⟨rfl, hb1⟩
  have B0 := blk_below (blk_new w _) hb1
  obtain ⟨k0, k1, k2, k3⟩ := blk2 B0
  have HB1 : Hid (Below w.heap.size w w1) := ((Below.refl _ _).alloc (Nat.le_refl _) _).trans (hb1.mono (by simp))
  have HB0 : Hid (w1.heap[w.heap.size]? = _) := B0
  clear hb1 B0 HA
  go_wp2
  refine bodyPost_ret (v := .tuple #[.agg #[.float .f64 (wholeLo x), .float .f64 (wholeHi x)], .nilIface]) (by simp [results, Tryz.results76, go_sem, k0, k1]) rfl ?_
  exact ⟨rfl, (HB1.out.setCell (by simp) _).setCell (by simp) _⟩
end Go.Proofs.YtonhpkigoplmaaaGreatDoor
namespace Go.Proofs.YtonhpkigoplmaaaGreatDoor
open Go.RowKit Go.Extern Ieee
attribute [local go_sem] run_store_float

set_option maxHeartbeats 400000 in
theorem exact_float64 (A : Nat → Addr) (b : Nat) (w : World) (hb : b < 18446744073709551616) (hS : Sents A w) :
    Calls Tryz.prog 75 #[.float .f64 b] w fun e w' => MakeR A b b w e w' := by
  have HB : Hid (b < 18446744073709551616) := hb
  have HS : Hid (Sents A w) := hS
  clear hb hS
  go_enter Tryz.func75, Tryz.ntmps75
  go_wp2_with fail
  refine (halves_float64 _).mono ?_
  rintro e w' ⟨rfl, rfl⟩
  go_wp2_with fail
  refine (make_any A b b _ HB.out HB.out (HS.out.alloc _)).mono ?_
  rintro e w1 ⟨rfl, hb1⟩
  have B0 := blk_below (blk_new w _) hb1
  obtain ⟨k0, k1, k2, k3⟩ := blk2 B0
  have HB1 : Hid (Below w.heap.size w w1) := ((Below.refl _ _).alloc (Nat.le_refl _) _).trans (hb1.mono (by simp))
  clear hb1 B0 HS
  go_wp2
  refine bodyPost_ret (v := .tuple #[.agg #[.float .f64 (makeN b b).1, .float .f64 (makeN b b).2.1], errV A (makeN b b).2.2]) (by simp [results, Tryz.results75, go_sem, k0, k1]) rfl ?_
  exact ⟨rfl, (HB1.out.setCell (by simp) _).setCell (by simp) _⟩

set_option maxHeartbeats 400000 in
theorem exact_real (A : Nat → Addr) (b : Nat) (w : World) (hb : b < 18446744073709551616) (hS : Sents A w) :
    Calls Tryz.prog 77 #[.float .f64 b] w fun e w' => MakeR A b b w e w' := by
  have HB : Hid (b < 18446744073709551616) := hb
  have HS : Hid (Sents A w) := hS
  clear hb hS
  go_enter Tryz.func77, Tryz.ntmps77
  go_wp2_with fail
  refine (halves_real _).mono ?_
  rintro e w' ⟨rfl, rfl⟩
  go_wp2_with fail
  refine (make_any A b b _ HB.out HB.out (HS.out.alloc _)).mono ?_
  rintro e w1 ⟨rfl, hb1⟩
  have B0 := blk_below (blk_new w _) hb1
  obtain ⟨k0, k1, k2, k3⟩ := blk2 B0
  have HB1 : Hid (Below w.heap.size w w1) := ((Below.refl _ _).alloc (Nat.le_refl _) _).trans (hb1.mono (by simp))
  clear hb1 B0 HS
  go_wp2
  refine bodyPost_ret (v := .tuple #[.agg #[.float .f64 (makeN b b).1, .float .f64 (makeN b b).2.1], errV A (makeN b b).2.2]) (by simp [results, Tryz.results77, go_sem, k0, k1]) rfl ?_
  exact ⟨rfl, (HB1.out.setCell (by simp) _).setCell (by simp) _⟩
end Go.Proofs.YtonhpkigoplmaaaGreatDoor
