/-
  JdgP, SlvS, SlvT, LawR, LawT, LawP.
-/
import Derived.Test.YtonhpkigoplmaaaGreatDoorS18
import Derived.Laws.StructEq
import Derived.Test.YtonhpkigoplmaaaGreatDoorS10
import Derived.Test.YtonhpkigoplmaaaGreatDoorS09
import Derived.Test.YtonhpkigoplmaaaGreatDoorS12
import Derived.Test.YtonhpkigoplmaaaGreatDoorS16
import Derived.Deep.DeepCutAuto
namespace Go.Proofs.YtonhpkigoplmaaaGreatDoor
open Go.RowKit Go.Extern Ieee

theorem fieldsB : (Tryz.prog.fieldsOf 28).toList.map (fun f => (f.name == "_", f.type, f.offset)) = [(false, 26, 0), (false, 26, 1)] := by kernel_rfl
theorem equalIn_box (d : Nat) (w : World) (a b : Int) : (Op.equalIn (d + 1 + 1) 28 (.agg #[.int .u64 a, .int .u64 b]) (.agg #[.int .u64 a, .int .u64 b])).run Tryz.prog w = .ok true w := by
  have hu : Tryz.prog.underlying 28 = some (.struct (Tryz.prog.fieldsOf 28)) := by kernel_rfl
  rw [run_equalIn_struct w _ _ _ _ hu (by kernel_rfl)]
  have hf := fieldsB
  generalize (Tryz.prog.fieldsOf 28).toList = fs at hf
  cases fs with
  | nil => simp at hf
  | cons f1 fs =>
  cases fs with
  | nil => simp at hf
  | cons f2 fs =>
  cases fs with
  | cons f3 fs => simp at hf
  | nil =>
    simp at hf
    obtain ⟨⟨n1, t1, o1⟩, n2, t2, o2⟩ := hf
    simp [Op.eqFields, n1, t1, o1, n2, t2, o2, part, run_equalIn_int w d 26 .u64 .u64 _ _ Tryz.underlying26]
theorem neq_box (w : World) (a b : Int) : (binOp .neq 28 (.agg #[.int .u64 a, .int .u64 b]) (.agg #[.int .u64 a, .int .u64 b])).run Tryz.prog w = .ok (.bool false) w := by
  have h2 : (Op.equal 28 (.agg #[.int .u64 a, .int .u64 b]) (.agg #[.int .u64 a, .int .u64 b])).run Tryz.prog w = .ok true w := equalIn_box 9998 w a b
  simp [binOp, h2]

set_option maxHeartbeats 8000000 in
set_option maxRecDepth 100000 in
theorem judge_good (ao bo oo : Option Addr) (na ac d nb bc oc : Nat) (P Qb xs : Nat → Nat × Nat) (pick : Int) (w : World) (hnb : nb ≤ 4) (hna : na ≤ 100) (hd : d ≤ 5) (hP : BxV w ao na P) (hQ : BxV w bo nb Qb) (hO : BxV w oo nb xs) (wP : Wds na P) (wQ : Wds nb Qb) (hs : Shp na d nb) (hr : RngP na P ∧ RngP nb Qb) (hx : solveX muX suX quX pvX nb (sysW d nb P Qb) (fun _ => (0, 0)) = some xs) :
    Calls Tryz.prog 86 #[.slice ao na ac, .int .i64 (d : Int), .slice bo nb bc, .slice oo nb oc, .int .i64 0, .int .i64 pick] w fun e w' => e = .returned (.bool true) ∧ Below w.heap.size w w' := by
  have HS := hid (shaped_any ao bo na ac d nb bc w (by omega) hd)
  have H1 := hid (ranged_any ao na ac P w hP hna wP)
  have H2 : Hid (∀ W, Below w.heap.size w W → Calls Tryz.prog 136 #[.slice bo nb bc] W fun e w' => ∃ r, e = .returned (.bool r) ∧ (r = true ↔ RngP nb Qb) ∧ Below W.heap.size W w') := fun W hW => ranged_any bo nb bc Qb W (hQ.below hW) (by omega) wQ
  have H3 : Hid (∀ W, Below w.heap.size w W → Calls Tryz.prog 137 #[.slice ao na ac] W fun e w' => ∃ bo bc, e = .returned (.slice bo na bc) ∧ BxV w' bo na (fun i => cB (P i)) ∧ Below W.heap.size W w') := fun W hW => normal_any ao na ac P W (hP.below hW) hna wP
  have H4 : Hid (∀ W, Below w.heap.size w W → Calls Tryz.prog 137 #[.slice bo nb bc] W fun e w' => ∃ bo bc, e = .returned (.slice bo nb bc) ∧ BxV w' bo nb (fun i => cB (Qb i)) ∧ Below W.heap.size W w') := fun W hW => normal_any bo nb bc Qb W (hQ.below hW) (by omega) wQ
  have ixs := iv_sys hs wP wQ hx
  have H5 : Hid (∀ W a1 a2 b1 b2, BxV W a1 na (fun i => cB (P i)) → BxV W b1 nb (fun i => cB (Qb i)) → Calls Tryz.prog 138 #[.slice a1 na a2, .slice b1 nb b2] W fun e w' => ∃ r, e = .returned (.bool r) ∧ (r = true → ∀ W, BxV W oo nb xs → Calls Tryz.prog 140 #[.slice oo nb oc] W fun e w' => e = .returned (.bool true) ∧ Below W.heap.size W w') ∧ Below W.heap.size W w') := fun W a1 a2 b1 b2 h1 h2 => (sure_any a1 b1 nb na a2 b2 _ _ W h1 h2 (shp_idx hs).1 hnb (fun i hi => cB_iv (wP i hi))).mono fun e w' h => by
    obtain ⟨r, rfl, hr', hb'⟩ := h
    refine ⟨r, rfl, fun hrt W' hW' => ?_, hb'⟩
    obtain ⟨g, hg, hN⟩ := sure_sys hs wP wQ hr (hr' hrt)
    rw [hx] at hg
    cases hg
    exact narrow_any oo nb oc xs W' hW' hnb ixs hN
  have H6 : Hid (∀ W a1 a2 b1 b2, BxV W a1 na (fun i => cB (P i)) → BxV W b1 nb (fun i => cB (Qb i)) → BxV W oo nb xs → Calls Tryz.prog 139 #[.slice a1 na a2, .slice b1 nb b2, .slice oo nb oc, .int .i64 pick] W fun e w' => e = .returned (.bool true) ∧ Below W.heap.size W w') := fun W a1 a2 b1 b2 h1 h2 h3 => held_any a1 b1 oo nb na a2 b2 oc _ _ xs pick W h1 h2 h3 (shp_idx hs).1 hs.1 hnb (fun i hi => cB_iv (wP i hi)) (fun i hi => cB_iv (wQ i hi)) ixs (held_sys hs wP wQ hx)
  have HMK : Hid (∀ W i, i < nb → Calls Tryz.prog 27 #[.agg #[.int .u64 ((xs i).1 : Int), .int .u64 ((xs i).2 : Int)]] W fun e w' => e = .returned (.tuple #[.agg #[.int .u64 ((xs i).1 : Int), .int .u64 ((xs i).2 : Int)], .int .i64 0]) ∧ Below W.heap.size W w') := fun W i hi => by
    have h := refMake_any (xs i).1 (xs i).2 W (ixs i hi).lt1 (ixs i hi).lt2
    rw [make_iv (ixs i hi)] at h
    exact h
  have hnb2 := neq_box
  have HSh := hid hs
  have HN := hid hr
  have HO := hid hO
  clear hs hr hP hQ wP wQ hx hO ixs
  go_enter Tryz.func86, Tryz.ntmps86
  go_wp2_with fail
  refine Calls.mono HS.out ?_
  rintro e w1 ⟨r, rfl, hr, hw⟩
  subst w1
  obtain rfl : r = true := hr.2 HSh.out
  clear hr HS HSh
  go_wp2_with fail
  refine Calls.mono H1.out ?_
  rintro e w1 ⟨r1, rfl, hr1, hb1⟩
  obtain rfl : r1 = true := hr1.2 HN.out.1
  have B1 := hid hb1
  clear hr1 hb1 H1
  go_wp2_with fail
  refine Calls.mono (H2.out _ B1.out) ?_
  rintro e w2 ⟨r2, rfl, hr2, hb2⟩
  obtain rfl : r2 = true := hr2.2 HN.out.2
  have B2 := hid (B1.out.trans (hb2.mono B1.out.size))
  clear hr2 hb2 H2 B1 HN
  go_wp2_with fail
  refine Calls.mono (H3.out _ B2.out) ?_
  rintro e w3 ⟨a1, a2, rfl, hx3, hb3⟩
  have X3 := hid hx3
  have B3 := hid (B2.out.trans (hb3.mono B2.out.size))
  clear hx3 hb3 H3 B2
  go_wp2_with fail
  refine Calls.mono (H4.out _ B3.out) ?_
  rintro e w4 ⟨b1, b2, rfl, hx4, hb4⟩
  have X3 := hid (X3.out.below hb4)
  have X4 := hid hx4
  have B4 := hid (B3.out.trans (hb4.mono B3.out.size))
  clear hx4 hb4 H4 B3
  go_wp2_with fail
  refine Calls.mono (H5.out _ _ _ _ _ X3.out X4.out) ?_
  rintro e w5 ⟨r3, rfl, hna3, hb5⟩
  have B5 := hid (B4.out.trans (hb5.mono B4.out.size))
  have X3 := hid (X3.out.below hb5)
  have X4 := hid (X4.out.below hb5)
  have HNR := hid hna3
  clear hb5 H5 B4 hna3
  go_wp2_with fail
  go_loopw [17] (fun x wy => ∃ i : Nat, i ≤ nb ∧ x = .int .i64 (i : Int) ∧ Below w5.heap.size w5 wy) (fun x _ => nb - (intOf x).toNat)
  case atStart => exact ⟨0, Nat.zero_le _, rfl, Below.refl _ _⟩
  case round =>
    obtain ⟨i, hi1, rfl, hb⟩ := hrel
    have HB := hid hb
    clear hb
    by_cases hi : i < nb
    · obtain ⟨g, off, rfl, hg, hc⟩ := HO.out.resolve_left (by omega)
      obtain ⟨c1, c2⟩ := hc i hi
      have hbw := B5.out.trans (HB.out.mono B5.out.size)
      have HCL : Hid (∀ W : World, Below wr.heap.size wr W → W.cell? ⟨g, off + i * 2, none⟩ = some (.int .u64 ((xs i).1 : Int)) ∧ W.cell? ⟨g, off + i * 2 + 1, none⟩ = some (.int .u64 ((xs i).2 : Int)) ∧ g < W.heap.size) := fun W hW => by
        have h := hbw.trans (hW.mono hbw.size)
        exact ⟨by rw [h.cell (by exact hg)]; exact c1, by rw [h.cell (by exact hg)]; exact c2, Nat.lt_of_lt_of_le hg h.size⟩
      have HMi : Hid (∀ W, Calls Tryz.prog 27 #[.agg #[.int .u64 ((xs i).1 : Int), .int .u64 ((xs i).2 : Int)]] W fun e w' => e = .returned (.tuple #[.agg #[.int .u64 ((xs i).1 : Int), .int .u64 ((xs i).2 : Int)], .int .i64 0]) ∧ Below W.heap.size W w') := fun W => HMK.out W i hi
      generalize (xs i).1 = y1 at *
      generalize (xs i).2 = y2 at *
      clear hc hg c1 c2 hbw
      obtain ⟨c1, c2, hgl⟩ := HCL.out wr (Below.refl _ _)
      go_wp2_with fail
      refine Calls.mono (HMi.out _) ?_
      rintro e w6 ⟨rfl, hb6⟩
      clear c1 c2 hgl
      obtain ⟨c1, c2, hgl⟩ := HCL.out w6 hb6
      have hB6 := HB.out.trans (hb6.mono HB.out.size)
      have ha := hB6.alloc hB6.size (Obj.cells #[.int .u64 (y1 : Int), .int .u64 (y2 : Int)] 28)
      have HB6 := hid ha.drew
      clear hb6 hB6 ha HMi HNR H6 X3 X4
      go_wp2_with fail
      go_region
      all_goals go_wp2
      all_goals go_roundw
      all_goals first | exact ⟨i + 1, by omega, by go_num, HB6.out⟩ | (simp [intOf]; omega)
    · have X5 := hid (X3.out.below HB.out)
      have X6 := hid (X4.out.below HB.out)
      have hbw := B5.out.trans (HB.out.mono B5.out.size)
      have X7 := hid (HO.out.below hbw)
      have B7 := hid hbw
      clear hbw X3 X4 HB B5 HMK
      go_wp2_with fail
      refine Calls.mono (H6.out _ _ _ _ _ X5.out X6.out X7.out) ?_
      rintro e w7 ⟨rfl, hb7⟩
      have B8 := hid (B7.out.trans (hb7.mono B7.out.size))
      have X8 := hid (X7.out.below hb7)
      clear hb7 H6 X5 X6 X7 B7
      cases r3 with
      | false =>
        go_wp2
        go_ret
        exact ⟨rfl, B8.out⟩
      | true =>
        go_wp2_with fail
        refine Calls.mono (HNR.out (by first | rfl | trivial) _ X8.out) ?_
        rintro e w9 ⟨rfl, hb9⟩
        have B9 := hid (B8.out.trans (hb9.mono B8.out.size))
        clear hb9 B8 X8 HNR
        go_wp2
        go_ret
        exact ⟨rfl, B9.out⟩
end Go.Proofs.YtonhpkigoplmaaaGreatDoor
namespace Go.Proofs.YtonhpkigoplmaaaGreatDoor
open Go.RowKit Go.Extern Ieee
attribute [local go_sem] run_store_float

/-- enclose.Solve upon the rows. -/
theorem solve_of (A : Nat → Addr) (na d nb : Nat) (P Qb : Nat → Nat × Nat) (k len : Nat) (xs : Nat → Nat × Nat) (hi : SolIs na d nb P Qb k len xs) (h5 : d ≤ 5) (hz : d = 0 → na = 0) (hna : na ≤ 100) (hnb : nb < 4611686018427387904)
    (hP : ∀ i, i < na → (P i).1 < 18446744073709551616 ∧ (P i).2 < 18446744073709551616) (hQ : ∀ i, i < nb → (Qb i).1 < 18446744073709551616 ∧ (Qb i).2 < 18446744073709551616)
    (b : Nat) (W : World) (hS : Sents A W) (v8 v11 : Value) (h8 : RwI b W v8 d na (fun i => cB (P i))) (h11 : W.ownsRow b 67 2 v11 nb (ivs (fun i => cB (Qb i)) nb)) :
    Calls Tryz.prog 54 #[v8, v11] W fun e w' => ∃ vl ve, e = .returned (.tuple #[vl, ve]) ∧ ErrIs A w' ve k ⟨#[]⟩ ∧ Below W.heap.size W w' ∧ ((len = 0 ∧ vl = .slice none 0 0) ∨ (len ≠ 0 ∧ len ≤ 4 ∧ ∃ g, vl = .slice (some ⟨g, 0, none⟩) len len ∧ W.heap.size ≤ g ∧ RowI w' g len xs)) := by
  obtain ⟨bl, hv, s⟩ := h8
  obtain ⟨bo, bc, rfl⟩ := own_slice h11
  have sq := square_shp (n := nb) h5 hz
  have hm := rwM_le (d := d) (i := na) h5
  rcases hi with ⟨hn, rfl, rfl⟩ | ⟨hs, hi⟩
  · obtain ⟨ro, rc, rfl⟩ := own_slice s.own
    refine (solve_bad A ro bo (rwM d na) rc nb bc (rwL d na) W hS s.heads (by omega) hnb (fun i _ => by have := rwL_le d na i; omega) (fun h => hn (sq.1 h))).mono ?_
    rintro e w' ⟨hbl, rfl⟩
    exact ⟨_, _, rfl, .inr (.inl ⟨7, by omega, rfl, rfl, rfl⟩), hbl, .inl ⟨rfl, rfl⟩⟩
  · have hq := sq.2 hs
    have hs2 := hs
    obtain ⟨h0, h4, hd, hsh⟩ := hs2
    have em : rwM d na = nb := hq.2.2.1
    have hq2 : Square nb nb (rwL d na) := by rw [em] at hq; exact hq
    rw [em] at s
    obtain ⟨ga, ca, gA, cA, rfl, hA, hR⟩ := s.good hq2
    obtain ⟨gB, bc', e, hgB, hcB, hB⟩ := RowI.of_owns h11 h0
    cases e
    have idx : ∀ y x, y < nb → x < nb → y * d + x < na := by
      intro y x hy hx
      rcases hsh with ⟨rfl, rfl⟩ | ⟨-, rfl, rfl⟩
      · have : y = 0 := by omega
        subst this; omega
      · have : (y + 1) * d ≤ d * d := Nat.mul_le_mul_right d (by omega)
        rw [Nat.succ_mul] at this
        omega
    have iv : ∀ y x, y < nb → x ≤ nb → ivW (sysW d nb P Qb y x) := by
      intro y x hy hx
      unfold sysW augW
      split
      · rename_i hlt
        have := hP _ (idx y x hy hlt)
        exact made_iv _ _ this.1 this.2
      · have := hQ y hy
        exact made_iv _ _ this.1 this.2
    refine (solve_good A ga nb ca gB bc gA cA (fun j x => cB (P (j * d + x))) (fun j => cB (Qb j)) W hS h0 h4 hA hR hB iv _ rfl).mono ?_
    rintro e w' ⟨hbl, ⟨⟨y, x, hy, hx, ho⟩, rfl⟩ | ⟨hno, hres⟩⟩
    · rcases hi with ⟨-, rfl, rfl⟩ | ⟨hno, -⟩
      · exact ⟨_, _, rfl, .inr (.inl ⟨2, by omega, rfl, rfl, rfl⟩), hbl, .inl ⟨rfl, rfl⟩⟩
      · have := hno y x hy hx
        unfold sysW at this
        rw [ho] at this
        cases this
    · rcases hi with ⟨⟨y, x, hy, hx, ho⟩, -⟩ | ⟨-, hi⟩
      · have := hno y x hy hx
        unfold sysW at ho
        rw [ho] at this
        cases this
      · rcases hres with ⟨g, gf, e1, rfl, hgf, hrow, -⟩ | ⟨e1, rfl⟩
        · rcases hi with ⟨e2, -, -⟩ | ⟨e2, rfl, rfl⟩
          · unfold sysW at e2
            rw [e2] at e1
            cases e1
          · unfold sysW at e2
            rw [e2] at e1
            cases e1
            exact ⟨_, _, rfl, .inl ⟨rfl, rfl, rfl⟩, hbl, .inr ⟨h0, h4, gf, rfl, hgf, hrow⟩⟩
        · rcases hi with ⟨-, rfl, rfl⟩ | ⟨e2, -, -⟩
          · exact ⟨_, _, rfl, .inr (.inl ⟨8, by omega, rfl, rfl, rfl⟩), hbl, .inl ⟨rfl, rfl⟩⟩
          · unfold sysW at e2
            rw [e2] at e1
            cases e1
end Go.Proofs.YtonhpkigoplmaaaGreatDoor
namespace Go.Proofs.YtonhpkigoplmaaaGreatDoor
open Go.RowKit Go.Extern Ieee
attribute [local go_sem] run_store_float

set_option maxHeartbeats 16000000 in
set_option maxRecDepth 100000 in
theorem plainSolve_any (A : Nat → Addr) (ao bo : Option Addr) (na ac d nb bc : Nat) (P Qb : Nat → Nat × Nat) (k len : Nat) (xs : Nat → Nat × Nat) (w : World) (hS : Sents A w) (ha : BxV w ao na P) (hb : BxV w bo nb Qb) (hi : SolIs na d nb P Qb k len xs) (h5 : d ≤ 5) (hz : d = 0 → na = 0) (hna : na ≤ 100) (hnb : nb * 16 ≤ 140737488355328)
    (hP : ∀ i, i < na → (P i).1 < 18446744073709551616 ∧ (P i).2 < 18446744073709551616) (hQ : ∀ i, i < nb → (Qb i).1 < 18446744073709551616 ∧ (Qb i).2 < 18446744073709551616) :
    Calls Tryz.prog 24 #[.slice ao na ac, .int .i64 (d : Int), .slice bo nb bc] w fun e w' => ∃ oo oc, e = .returned (.tuple #[.slice oo len oc, .int .i64 (k : Int)]) ∧ BxV w' oo len xs ∧ len ≤ oc ∧ (len = 0 → oo = none ∧ oc = 0) ∧ Below w.heap.size w w' := by
  obtain ⟨i1, hi1, hy0, hy1, hy2⟩ := info_parts infoIv
  obtain ⟨i0, hi0, hz0, hz1, hz2⟩ := info_parts infoSl
  obtain ⟨i2, hi2, hx0, hx1, hx2⟩ := info_parts infoPB
  have HA := hid' ha
  have HB := hid' hb
  have HS := hid' hS
  have HV : Hid (∀ (W : World) (v8 v11 : Value), Below w.heap.size w W → RwI w.heap.size W v8 d na (fun i => cB (P i)) → W.ownsRow w.heap.size 67 2 v11 nb (ivs (fun i => cB (Qb i)) nb) → Calls Tryz.prog 54 #[v8, v11] W fun e w' => ∃ vl ve, e = .returned (.tuple #[vl, ve]) ∧ ErrIs A w' ve k ⟨#[]⟩ ∧ Below W.heap.size W w' ∧ ((len = 0 ∧ vl = .slice none 0 0) ∨ (len ≠ 0 ∧ len ≤ 4 ∧ ∃ g, vl = .slice (some ⟨g, 0, none⟩) len len ∧ W.heap.size ≤ g ∧ RowI w' g len xs))) := fun W v8 v11 hbW h8 h11 => solve_of A na d nb P Qb k len xs hi h5 hz hna (by omega) hP hQ w.heap.size W (hS.below hbW (Nat.le_refl _)) v8 v11 h8 h11
  have HM : Hid (∀ (W : World) (i : Nat), Below w.heap.size w W → i < na → Calls Tryz.prog 40 #[.agg #[.int .u64 ((P i).1 : Int), .int .u64 ((P i).2 : Int)]] W fun e w' => e = .returned (.agg #[.float .f64 (cB (P i)).1, .float .f64 (cB (P i)).2]) ∧ Below W.heap.size W w') := fun W i hW hi => made_any A _ _ W (hP i hi).1 (hP i hi).2 (hS.below hW (Nat.le_refl _))
  have HN : Hid (∀ (W : World) (i : Nat), Below w.heap.size w W → i < nb → Calls Tryz.prog 40 #[.agg #[.int .u64 ((Qb i).1 : Int), .int .u64 ((Qb i).2 : Int)]] W fun e w' => e = .returned (.agg #[.float .f64 (cB (Qb i)).1, .float .f64 (cB (Qb i)).2]) ∧ Below W.heap.size W w') := fun W i hW hi => made_any A _ _ W (hQ i hi).1 (hQ i hi).2 (hS.below hW (Nat.le_refl _))
  have HZ := hid' hz
  have H5 := hid' h5
  clear ha hb hS hi hP hQ hz h5
  go_enter Tryz.func24, Tryz.ntmps24
  go_wp2_with fail
  go_loopw [8, 24] (fun v x wr => ∃ i : Nat, i ≤ na ∧ x = .int .i64 (i : Int) ∧ RwI w.heap.size wr v d i (fun i => cB (P i)) ∧ Below w.heap.size w wr) (fun _ x _ => na - (intOf x).toNat)
  case atStart => exact ⟨0, Nat.zero_le _, rfl, ⟨w.heap.size, fun _ => .slice none 0 0, by
    have e : rwM d 0 = 0 := by
      unfold rwM
      by_cases h : d = 0
      · subst h; rfl
      · exact Nat.div_eq_of_lt (by omega)
    rw [e]; exact Rws.nil _ _ _ _ _ (Nat.le_refl _)⟩, Below.refl _ _⟩
  case round =>
    obtain ⟨i, hin, rfl, hrw, hbw⟩ := hrel
    have HRW := hid' hrw
    have HBW := hid' hbw
    clear hrw hbw
    by_cases hi : i < na
    · have hd0 : d ≠ 0 := fun h => by have := HZ.out h; omega
      obtain ⟨g, off, rfl, hg, hc⟩ := HA.out.resolve_left (by omega)
      obtain ⟨c1, c2⟩ := hc i hi
      rw [← HBW.out.cell (by exact hg)] at c1 c2
      have hgl : g < wr.heap.size := Nat.lt_of_lt_of_le hg HBW.out.size
      have HMi : Hid (∀ W : World, Below w.heap.size w W → Calls Tryz.prog 40 #[.agg #[.int .u64 ((P i).1 : Int), .int .u64 ((P i).2 : Int)]] W fun e w' => e = .returned (.agg #[.float .f64 (cB (P i)).1, .float .f64 (cB (P i)).2]) ∧ Below W.heap.size W w') := fun W hW => HM.out W i hW hi
      have g1 : decide ((d : Int) > 0) = true := decide_eq_true (by omega)
      have g2 : ((d : Int) == 0) = false := by rw [beq_eq_false_iff_ne]; omega
      have HG := hid hg
      clear hc hg HM HN HV HA HB HS HZ
      have hg : g < wr.heap.size := hgl
      go_upto_if 36 with fail
      go_cut [8] (fun s8 wc => ∃ bl l g c k hl r, RwP w.heap.size wc s8 d i (fun i => cB (P i)) bl l g c k hl r ∧ wc.heap[wr.heap.size]? = some (.cells #[.int .u64 ((P i).1 : Int), .int .u64 ((P i).2 : Int)] 33 (0, 0)) ∧ Below w.heap.size w wc)
      case first =>
        have K0 := hid (blk_new wr (Obj.cells #[.int .u64 ((P i).1 : Int), .int .u64 ((P i).2 : Int)] 33))
        have ha : Below wr.heap.size wr (wr.alloc (Obj.cells #[.int .u64 ((P i).1 : Int), .int .u64 ((P i).2 : Int)] 33)) := (Below.refl _ _).alloc (Nat.le_refl _) _
        have RW := hid (HRW.out.below ha)
        have HB0 := hid (HBW.out.trans (ha.mono HBW.out.size))
        clear HRW HBW ha
        generalize (wr.alloc (Obj.cells #[.int .u64 ((P i).1 : Int), .int .u64 ((P i).2 : Int)] 33)) = W1 at *
        by_cases hm : i % d = 0
        · have g3 : (((i : Int).tmod (d : Int)) == 0) = true := by
            rw [beq_iff_eq, Int.tmod_eq_emod_of_nonneg (by omega)]; omega
          have g4 : (((i : Int) % (d : Int)) == 0) = true := by rw [beq_iff_eq]; omega
          obtain ⟨bl, hv, hrs⟩ := RW.out
          have RS := hid hrs
          have hsz := HB0.out.size
          have hml := rwM_le (d := d) (i := i) H5.out
          obtain ⟨so, sc, rfl⟩ := own_slice hrs.own
          clear hrs RW
          go_wp2_with (first
            | (at_builtin; refine wpList_append_own _ rfl _ _ 85 rfl w.heap.size 86 i0 (.slice none 0 0) 1 24 Tryz.underlying85 hi0 hz0 hz1 hz2 rfl (by decide) _ _ _ rfl (RS.out.own.alloc _) ⟨W1.heap.size, 0, none⟩ 1 1 [.slice none 0 0] rfl rfl one_cell ?c2 ?c3 ?c4 ?c5 ?_)
            | go_in)
          case c2 => first | rfl | (intro u hu; simp at hu; rcases hu with rfl; rfl)
          case c3 => unfold maxLen; omega
          case c4 => omega
          case c5 => first | omega | (simp; omega)
          · intro v' w5 hown' hgrow _
            have PB := hid (own_push RS.out.own HB0.out (Nat.le_refl _) hgrow)
            have ha : Below W1.heap.size W1 (W1.alloc (Obj.cells #[.slice none 0 0] 86)) := (Below.refl _ _).alloc (Nat.le_refl _) _
            obtain ⟨bl', l', g', c', k', hl', r', hp⟩ := RwI.new (C := fun i => cB (P i)) (RS.out.below ha) hd0 H5.out hm (by simp; omega) hown' hgrow
            have PP := hid hp
            have K5 : Hid (w5.heap[wr.heap.size]? = some (.cells #[.int .u64 ((P i).1 : Int), .int .u64 ((P i).2 : Int)] 33 (0, 0))) := by
              have h := blk_below K0.out ha
              show _ = _
              rw [hgrow.block _ (lt_of_row h) ?_]
              · exact h
              · intro hu
                obtain ⟨-, cur, hc⟩ := own_block RS.out.own hu.symm
                rw [blk_below hc ha] at h
                cases h
            clear hown' hgrow RS K0 HB0 hp ha
            go_wp2_with fail
            go_meet
            exact ⟨bl', l', g', c', k', hl', r', PP.out, K5.out, PB.out⟩
        · have g3 : (((i : Int).tmod (d : Int)) == 0) = false := by
            rw [beq_eq_false_iff_ne, Int.tmod_eq_emod_of_nonneg (by omega)]; omega
          have g4 : (((i : Int) % (d : Int)) == 0) = false := by rw [beq_eq_false_iff_ne]; omega
          obtain ⟨bl', l', g', c', k', hl', r', hp⟩ := RW.out.old hd0 H5.out hm
          have PP := hid hp
          clear hp RW
          go_wp2_with fail
          go_meet
          exact ⟨bl', l', g', c', k', hl', r', PP.out, K0.out, HB0.out⟩
      case rest =>
        obtain ⟨bl, l, g', c', k', hl, r, hp, hk, hbc⟩ := hcut
        obtain ⟨ho, hoc, rfl⟩ := own_slice hp.own
        obtain rfl := hp.e
        have PP := hid hp
        have K0 := hid hk
        have HBC := hid hbc
        have cg := hp.cell
        have cf := hp.nf
        have hgl' := hp.glt
        have hli := hp.li
        have h5k := hp.k5
        obtain ⟨x0, x1, -, -⟩ := blk2 hk
        have hlx := lt_of_row hk
        have g4 : decide (((l + 1 : Nat) : Int) > 0) = true := decide_eq_true (by omega)
        have hwl : IntKind.i64.wrap ((l : Nat) : Int) = (l : Int) := by rw [IntKind.wrap_i64]; omega
        have hl2 : 0 ≤ (l : Int) ∧ (l : Int) < (l : Int) + 1 := by omega
        have hl3 : l < l + 1 := by omega
        generalize (P i).1 = p1 at *
        generalize (P i).2 = p2 at *
        generalize hC : (fun i => cB (P i)) = C at *
        have hCi : cB (P i) = C i := by rw [← hC]
        rw [hCi] at HMi
        clear hp hk hbc c1 c2 HRW HBW HG hg
        have iN : Hid (BTt wc wc.drew) := ⟨(Below.refl _ _).drew⟩
        have HBD : Hid (Below w.heap.size w wc.drew) := HBC.out.drew
        go_wp2_with fail
        go_region_law (first
          | (refine step_append_mine rfl _ _ 86 rfl bl 67 i1 (.agg #[.float .f64 0, .float .f64 0]) 2 16 Tryz.underlying86 hi1 hy0 hy1 hy2 rfl (by decide) _ k' (ivs r k') rfl (OW.out.alloc _) ⟨_, 0, none⟩ 1 1 [.float .f64 (C i).1, .float .f64 (C i).2] rfl rfl (two_of_blk (blk_new _ _)) (by simp [Value.oneCell']) (by unfold maxLen; omega) (by omega) (Nat.le_trans PP.out.le (iN.out.alloc _).hb.size) ?_
             intro v' w1 hown' hgrow
             obtain ⟨vo, vc, rfl⟩ := own_slice hown'
             obtain ⟨⟨s1, s2⟩, st⟩ := PP.out.step _ (iN.out.alloc _).hb w1 _ hown' hgrow
             have ST := hid st
             have BW : Hid (Below w.heap.size w w1) := ((HBC.out.trans ((iN.out.alloc _).hb.mono HBC.out.size))).grown hgrow (Nat.le_trans HBC.out.size (iN.out.alloc _).hb.size) (fun k hk => Nat.le_trans PP.out.bb (own_ge OW.out hk))
             clear hown' hgrow OW st)
          | (rw [if_pos (by rfl)]
             go_simp
             go_at_call 40
             refine Calls.mono (HMi.out _ ?_) ?_
             · exact HBD.out
             rintro e v0 ⟨rfl, hbk⟩
             have iN : Hid (BTt wc v0) := iN.out.below hbk
             have OW : Hid (v0.ownsRow bl 67 2 (.slice ho k' hoc) k' (ivs r k')) := ownsRow_mono PP.out.own iN.out.hb (Nat.le_refl _)
             have cg : v0.cell? ⟨g', l, none⟩ = some (.slice ho k' hoc) := by rw [iN.out.hb.cell (by exact hgl')]; exact PP.out.cell
             have hgl2 : g' < v0.heap.size := Nat.lt_of_lt_of_le hgl' iN.out.hb.size
             clear hbk))
        all_goals (go_wp2; go_roundw)
        all_goals subst hC
        all_goals first | exact ⟨i + 1, by omega, by go_num, ST.out, BW.out.setCell (by exact PP.out.gb) _⟩ | ((repeat apply Exists.intro); exact ⟨⟨i + 1, by omega, by go_num, ST.out, BW.out.setCell (by exact PP.out.gb) _⟩, rfl⟩) | (simp [intOf]; omega)
    · obtain rfl : i = na := by omega
      have HW2 := hid HBW.out
      clear HA HM HZ H5
      obtain ⟨ws, rfl⟩ : ∃ ws, ws = wr := ⟨_, rfl⟩
      go_wp2_with fail
      go_loopw [11, 61] (fun v x wy => ∃ j : Nat, j ≤ nb ∧ x = .int .i64 (j : Int) ∧ wy.ownsRow ws.heap.size 67 2 v j (ivs (fun i => cB (Qb i)) j) ∧ Below ws.heap.size ws wy) (fun _ x _ => nb - (intOf x).toNat)
      case atStart => exact ⟨0, Nat.zero_le _, rfl, World.ownsRow_nil _ _ _ _, Below.refl _ _⟩
      case round =>
        obtain ⟨j, hj1, rfl, hown, hb2⟩ := hrel
        have HO := hid hown
        have HB2 := hid hb2
        clear hown hb2
        by_cases hj : j < nb
        · obtain ⟨g, off, rfl, hg, hc⟩ := HB.out.resolve_left (by omega)
          have hbw : Below w.heap.size w wr := HW2.out.trans (HB2.out.mono HW2.out.size)
          obtain ⟨c1, c2⟩ := hc j hj
          rw [← hbw.cell (by exact hg)] at c1 c2
          have hgl : g < wr.heap.size := Nat.lt_of_lt_of_le hg hbw.size
          have HNj : Hid (∀ W : World, Below wr.heap.size wr W → Calls Tryz.prog 40 #[.agg #[.int .u64 ((Qb j).1 : Int), .int .u64 ((Qb j).2 : Int)]] W fun e w' => e = .returned (.agg #[.float .f64 (cB (Qb j)).1, .float .f64 (cB (Qb j)).2]) ∧ Below W.heap.size W w') := fun W hW => HN.out W j (hbw.trans (hW.mono hbw.size)) hj
          have HX : Hid (ivs (fun i => cB (Qb i)) (j + 1) = ivs (fun i => cB (Qb i)) j ++ [.float .f64 (cB (Qb j)).1, .float .f64 (cB (Qb j)).2]) := ivs_push _ j
          generalize (Qb j).1 = y1 at *
          generalize (Qb j).2 = y2 at *
          generalize (cB (Qb j)).1 = z1 at *
          generalize (cB (Qb j)).2 = z2 at *
          clear hc hg HN HV HS HB hbw HRW HBW HW2
          go_wp2_with fail
          refine Calls.mono (HNj.out _ ((Below.refl _ _).alloc (Nat.le_refl _) _)) ?_
          rintro e w1 ⟨rfl, hb1⟩
          have ha : Below wr.heap.size wr (wr.alloc (Obj.cells #[.int .u64 (y1 : Int), .int .u64 (y2 : Int)] 33)) := (Below.refl _ _).alloc (Nat.le_refl _) _
          have hw1 : Below wr.heap.size wr w1 := ha.trans (hb1.mono ha.size)
          have HO := hid (ownsRow_mono HO.out hw1 (Nat.le_refl _))
          have HB2 := hid (HB2.out.trans (hw1.mono HB2.out.size))
          have hsz := HB2.out.size
          clear hb1 ha hw1 c1 c2 HNj
          go_wp2_with (first
            | (at_builtin; refine wpList_append_own _ rfl _ _ 86 rfl ws.heap.size 67 i1 (.agg #[.float .f64 0, .float .f64 0]) 2 16 Tryz.underlying86 hi1 hy0 hy1 hy2 rfl (by decide) _ _ _ rfl (HO.out.alloc _) ⟨w1.heap.size, 0, none⟩ 1 1 [.float .f64 z1, .float .f64 z2] rfl rfl two_cells ?c2 ?c3 ?c4 ?c5 ?_)
            | go_in)
          case c2 => intro u hu; simp at hu; rcases hu with rfl | rfl <;> rfl
          case c3 => unfold maxLen; omega
          case c4 => omega
          case c5 => first | omega | (simp; omega)
          · intro v' w2 hown' hgrow _
            have PB := hid (own_push HO.out HB2.out (Nat.le_refl _) hgrow)
            rw [← HX.out] at hown'
            have HO2 := hid hown'
            clear hown' hgrow HO HB2
            go_wp2
            go_roundw
            case rel => exact ⟨j + 1, by omega, by go_num, HO2.out, PB.out⟩
            case measure => simp [intOf]; omega
        · obtain rfl : j = nb := by omega
          have hbw : Below w.heap.size w wr := HW2.out.trans (HB2.out.mono HW2.out.size)
          have HSV := hid (HV.out wr _ _ hbw (HRW.out.below HB2.out) (ownsRow_mono HO.out (Below.refl _ _) HW2.out.size))
          have HBB := hid hbw
          clear hbw HV HRW HBW HW2 HO HB2 HB HN
          go_wp2_with fail
          refine Calls.mono HSV.out ?_
          rintro e w3 ⟨vl, ve, rfl, herr, hb3, hor⟩
          have HB3 := hid (HBB.out.trans (hb3.mono HBB.out.size))
          have HCD := hid (code_any A ve k ⟨#[]⟩ w3 (HS.out.below HB3.out (Nat.le_refl _)) herr)
          have HOR := hid hor
          have HBS := hid HBB.out.size
          clear herr hb3 hor HSV HS HBB
          go_wp2_with fail
          refine Calls.mono HCD.out ?_
          rintro e w4 ⟨rfl, hb4⟩
          have HB4 := hid (HB3.out.trans (hb4.mono HB3.out.size))
          have B34 := hid hb4
          clear hb4 HCD HB3
          rcases HOR.out with ⟨rfl, rfl⟩ | ⟨hl0, hl4, gf, rfl, hgf, hrow⟩
          · clear HOR
            go_wp2_with fail
            go_loopw [18, 84] (fun v x wy => v = .slice none 0 0 ∧ x = .int .i64 0 ∧ wy = w4) (fun _ _ _ => 0)
            case atStart => exact ⟨rfl, rfl, rfl⟩
            case round =>
              obtain ⟨rfl, rfl, rfl⟩ := hrel
              go_wp2_with fail
              go_loopw [96] (fun x wy => x = .int .i64 0 ∧ wy = wr) (fun _ _ => 0)
              case atStart => exact ⟨rfl, rfl⟩
              case round =>
                obtain ⟨rfl, rfl⟩ := hrel
                go_wp2
                refine bodyPost_ret (v := .tuple #[.slice none 0 0, .int .i64 (k : Int)]) (by simp [results, Tryz.results24, go_sem]) rfl ?_
                first | exact ⟨none, 0, rfl, .inl rfl, Nat.le_refl _, fun _ => ⟨rfl, rfl⟩, HB4.out⟩ | exact ⟨none, 0, rfl, .inl rfl, ⟨rfl, rfl⟩, HB4.out⟩
          · have RW3 := hid (hrow.below B34.out)
            have HGF : Hid (w.heap.size ≤ gf) := Nat.le_trans HBS.out hgf
            have LT := hid hrow.lt
            clear HOR hrow hgf HBS
            have HW4 := hid HB4.out.size
            go_wp2_with fail
            go_loopw [18, 84] (fun v x wy => ∃ j : Nat, j ≤ len ∧ x = .int .i64 (j : Int) ∧ wy.ownsRow w4.heap.size 33 2 v j (bxs xs j) ∧ Below w4.heap.size w4 wy) (fun _ x _ => len - (intOf x).toNat)
            case atStart => exact ⟨0, Nat.zero_le _, rfl, World.ownsRow_nil _ _ _ _, Below.refl _ _⟩
            case round =>
              obtain ⟨j, hj1, rfl, hown, hb5⟩ := hrel
              have HO := hid hown
              have HB5 := hid hb5
              clear hown hb5
              by_cases hj : j < len
              · obtain ⟨c1, c2, -, -⟩ := (RW3.out.below HB5.out).cell hj
                have hgl : gf < wr.heap.size := (RW3.out.below HB5.out).lt
                have HX : Hid (bxs xs (j + 1) = bxs xs j ++ [.int .u64 ((xs j).1 : Int), .int .u64 ((xs j).2 : Int)]) := bxs_push xs j
                generalize (xs j).1 = y1 at *
                generalize (xs j).2 = y2 at *
                clear RW3 HGF LT HB4 B34
                go_wp2_with fail
                refine Calls.mono (box_any y1 y2 _) ?_
                rintro e w5 ⟨rfl, hb6⟩
                have ha : Below wr.heap.size wr (wr.alloc (Obj.cells #[.float .f64 y1, .float .f64 y2] 67)) := (Below.refl _ _).alloc (Nat.le_refl _) _
                have hw1 : Below wr.heap.size wr w5 := ha.trans (hb6.mono ha.size)
                have HO := hid (ownsRow_mono HO.out hw1 (Nat.le_refl _))
                have HB5 := hid (HB5.out.trans (hw1.mono HB5.out.size))
                have hsz := HB5.out.size
                clear hb6 ha hw1 c1 c2
                go_wp2_with (first
                  | (at_builtin; refine wpList_append_own _ rfl _ _ 41 rfl w4.heap.size 33 i2 (.agg #[.int .u64 0, .int .u64 0]) 2 16 Tryz.underlying41 hi2 hx0 hx1 hx2 rfl (by decide) _ _ _ rfl (HO.out.alloc _) ⟨w5.heap.size, 0, none⟩ 1 1 [.int .u64 (y1 : Int), .int .u64 (y2 : Int)] rfl rfl two_cells ?c2 ?c3 ?c4 ?c5 ?_)
                  | go_in)
                case c2 => intro u hu; simp at hu; rcases hu with rfl | rfl <;> rfl
                case c3 => unfold maxLen; omega
                case c4 => omega
                case c5 => first | omega | (simp; omega)
                · intro v' w6 hown' hgrow _
                  have PB := hid (own_push HO.out HB5.out (Nat.le_refl _) hgrow)
                  rw [← HX.out] at hown'
                  have HO2 := hid hown'
                  clear hown' hgrow HO HB5
                  go_wp2
                  go_roundw
                  case rel => exact ⟨j + 1, by omega, by go_num, HO2.out, PB.out⟩
                  case measure => simp [intOf]; omega
              · obtain rfl : len = j := by omega
                obtain ⟨bo', bc', rfl, hc', -⟩ := BxV.of_bxs HO.out
                have HC' := hid hc'
                clear hc'
                have RW6 := hid (RW3.out.below HB5.out)
                have HB6 := hid (HB4.out.trans (HB5.out.mono HB4.out.size))
                have hgne : Hid (gf < w4.heap.size) := Nat.lt_of_lt_of_le LT.out B34.out.size
                obtain ⟨w6, rfl⟩ : ∃ w6, w6 = wr := ⟨_, rfl⟩
                clear RW3 HB4 B34 HB5 LT
                go_wp2_with fail
                go_loopw [96] (fun x wy => ∃ (j : Nat) (r : Nat → Nat × Nat), j ≤ len ∧ x = .int .i64 (j : Int) ∧ RowI wy gf len r ∧ wy.ownsRow w4.heap.size 33 2 (.slice bo' len bc') len (bxs xs len) ∧ Below w.heap.size w wy) (fun x _ => len - (intOf x).toNat)
                case atStart => exact ⟨0, xs, Nat.zero_le _, rfl, RW6.out, HO.out, HB6.out⟩
                case round =>
                  obtain ⟨j, r, hj1, rfl, hrow, hown, hb7⟩ := hrel
                  have RW7 := hid hrow
                  have HO7 := hid hown
                  have HB7 := hid hb7
                  clear hrow hown hb7 HO HB6 RW6
                  by_cases hj : j < len
                  · obtain ⟨c1, c2, f1, f2⟩ := RW7.out.cell hj
                    have hgl := RW7.out.lt
                    have RW8 := hid (RW7.out.set hj 0 0)
                    have HO8 : Hid (((wr.setCell ⟨gf, j * 2, none⟩ (.float .f64 0)).setCell ⟨gf, j * 2 + 1, none⟩ (.float .f64 0)).ownsRow w4.heap.size 33 2 (.slice bo' len bc') len (bxs xs len)) := own_grown (own_grown HO7.out (grown_set _ _ _ _) (fun k hk e => by cases e; have := (own_block HO7.out hk).1; have := hgne.out; omega)) (grown_set _ _ _ _) (fun k hk e => by cases e; have := (own_block HO7.out hk).1; have := hgne.out; omega)
                    have HB8 : Hid (Below w.heap.size w ((wr.setCell ⟨gf, j * 2, none⟩ (.float .f64 0)).setCell ⟨gf, j * 2 + 1, none⟩ (.float .f64 0))) := (HB7.out.setCell (by exact HGF.out) _).setCell (by exact HGF.out) _
                    clear RW7 HO7 HB7
                    go_wp2
                    go_roundw
                    case rel => exact ⟨j + 1, _, by omega, by go_num, RW8.out, HO8.out, HB8.out⟩
                    case measure => simp [intOf]; omega
                  · obtain ⟨bo2, bc2, e2, -, hv'⟩ := BxV.of_bxs HO7.out
                    cases e2
                    have HV' := hid hv'
                    clear hv' HO7 RW7
                    go_wp2
                    refine bodyPost_ret (v := .tuple #[.slice bo' len bc', .int .i64 (k : Int)]) (by simp [results, Tryz.results24, go_sem]) rfl ?_
                    exact ⟨bo', bc', rfl, HV'.out, HC'.out, fun h => absurd h hl0, HB7.out⟩
end Go.Proofs.YtonhpkigoplmaaaGreatDoor
namespace Go.Proofs.YtonhpkigoplmaaaGreatDoor
open Go.RowKit

set_option maxHeartbeats 4000000 in
set_option maxRecDepth 100000 in
theorem given_any (ao : Option Addr) (n c : Nat) (xs : Nat → Nat × Nat) (w : World) (h : BxV w ao n xs) (hn : n * 16 ≤ 140737488355328) :
    Calls Tryz.prog 84 #[.slice ao n c] w fun e w' => ∃ bo bc, e = .returned (.slice bo n bc) ∧ BxV w' bo n xs ∧ Below w.heap.size w w' := by
  obtain ⟨i0, hi, hz0, hz1, hz2⟩ := info_parts infoPB
  have HW := hid h
  clear h
  go_enter Tryz.func84, Tryz.ntmps84
  go_wp2
  go_loopw [3, 4] (fun v x wr => ∃ i : Nat, i ≤ n ∧ x = .int .i64 (i : Int) ∧ wr.ownsRow w.heap.size 33 2 v i (bxs xs i) ∧ Below w.heap.size w wr) (fun _ x _ => n - (intOf x).toNat)
  case atStart => exact ⟨0, Nat.zero_le _, rfl, World.ownsRow_nil _ _ _ _, Below.refl _ _⟩
  case round =>
    obtain ⟨i, hi1, rfl, hown, hb⟩ := hrel
    have HO := hid hown
    have HB := hid hb
    clear hown hb
    by_cases hin : i < n
    · obtain ⟨g, off, rfl, hg, hc⟩ := HW.out.resolve_left (by omega)
      obtain ⟨c1, c2⟩ := hc i hin
      rw [← HB.out.cell (by exact hg)] at c1 c2
      have HX : Hid (bxs xs (i + 1) = bxs xs i ++ [.int .u64 ((xs i).1 : Int), .int .u64 ((xs i).2 : Int)]) := bxs_push xs i
      generalize (xs i).1 = y1 at *
      generalize (xs i).2 = y2 at *
      clear hc hg HW
      go_wp2_with fail
      refine Calls.mono (lawBox_any _ _ _) ?_
      rintro e w1 ⟨rfl, hb1⟩
      have HO : Hid (w1.ownsRow w.heap.size 33 2 _ i (bxs xs i)) := ownsRow_mono HO.out hb1 (Nat.le_refl _)
      have HB : Hid (Below w.heap.size w w1) := HB.out.trans (hb1.mono HB.out.size)
      clear hb1 c1 c2
      go_wp2_with (first
        | (at_builtin; refine wpList_append_own _ rfl _ _ 41 rfl w.heap.size 33 i0 (.agg #[.int .u64 0, .int .u64 0]) 2 16 Tryz.underlying41 hi hz0 hz1 hz2 rfl (by decide) _ _ _ rfl (HO.out.alloc _) ⟨w1.heap.size, 0, none⟩ 1 1 [.int .u64 (y1 : Int), .int .u64 (y2 : Int)] rfl rfl two_cells ?c2 ?c3 ?c4 ?c5 ?_)
        | go_in)
      case c2 => intro u hu; simp at hu; rcases hu with rfl | rfl <;> rfl
      case c3 => unfold maxLen; omega
      case c4 => omega
      case c5 => have := HB.out.size; simp; omega
      · intro v' w2 hown' hgrow _
        have HB2 := hid (own_push HO.out HB.out (Nat.le_refl _) hgrow)
        rw [← HX.out] at hown'
        have HO2 := hid hown'
        clear hown' hgrow HO HB
        go_wp2
        go_roundw
        case rel => exact ⟨i + 1, by omega, by go_num, HO2.out, HB2.out⟩
        case measure => simp [intOf]; omega
    · have e : i = n := by omega
      subst e
      obtain ⟨bo, bc, rfl, hc, hv⟩ := BxV.of_bxs HO.out
      have HV := hid hv
      clear HO hc hv
      go_wp2
      go_ret
      exact ⟨bo, bc, rfl, HV.out, HB.out⟩
end Go.Proofs.YtonhpkigoplmaaaGreatDoor
namespace Go.Proofs.YtonhpkigoplmaaaGreatDoor
open Go.RowKit

set_option maxHeartbeats 4000000 in
set_option maxRecDepth 100000 in
theorem taken_any (ao : Option Addr) (n c : Nat) (xs : Nat → Nat × Nat) (w : World) (h : BxV w ao n xs) (hn : n * 16 ≤ 140737488355328) :
    Calls Tryz.prog 85 #[.slice ao n c] w fun e w' => ∃ bo bc, e = .returned (.slice bo n bc) ∧ BxV w' bo n xs ∧ n ≤ bc ∧ (n = 0 → bo = none ∧ bc = 0) ∧ Below w.heap.size w w' := by
  obtain ⟨i0, hi, hz0, hz1, hz2⟩ := info_parts infoBox
  have HW := hid h
  clear h
  go_enter Tryz.func85, Tryz.ntmps85
  go_wp2
  go_loopw [3, 4] (fun v x wr => ∃ i : Nat, i ≤ n ∧ x = .int .i64 (i : Int) ∧ wr.ownsRow w.heap.size 28 2 v i (bxs xs i) ∧ (i = 0 → v = .slice none 0 0) ∧ Below w.heap.size w wr) (fun _ x _ => n - (intOf x).toNat)
  case atStart => exact ⟨0, Nat.zero_le _, rfl, World.ownsRow_nil _ _ _ _, fun _ => rfl, Below.refl _ _⟩
  case round =>
    obtain ⟨i, hi1, rfl, hown, hz, hb⟩ := hrel
    have HO := hid hown
    have HB := hid hb
    have HZ := hid hz
    clear hown hb hz
    by_cases hin : i < n
    · obtain ⟨g, off, rfl, hg, hc⟩ := HW.out.resolve_left (by omega)
      obtain ⟨c1, c2⟩ := hc i hin
      rw [← HB.out.cell (by exact hg)] at c1 c2
      have HX : Hid (bxs xs (i + 1) = bxs xs i ++ [.int .u64 ((xs i).1 : Int), .int .u64 ((xs i).2 : Int)]) := bxs_push xs i
      generalize (xs i).1 = y1 at *
      generalize (xs i).2 = y2 at *
      have HOD : Hid (wr.drew.ownsRow w.heap.size 28 2 _ i (bxs xs i)) := HO.out
      have HBD : Hid (Below w.heap.size w wr.drew) := HB.out.drew
      clear hc hg HW HO HB HZ
      go_wp2_with fail
      go_region_law (first
        | (refine step_append_mine rfl _ _ 61 rfl w.heap.size 28 i0 (.agg #[.int .u64 0, .int .u64 0]) 2 16 Tryz.underlying61 hi hz0 hz1 hz2 rfl (by decide) _ i (bxs xs i) rfl (HOD.out.alloc _) ⟨_, 0, none⟩ 1 1 [.int .u64 (y1 : Int), .int .u64 (y2 : Int)] rfl rfl (two_of_blk (blk_new _ _)) (by simp [Value.oneCell']) (by unfold maxLen; omega) (by omega) (by have := HBD.out.size; simp at this ⊢; omega) ?_
           intro v' w1 hown' hgrow
           have HB2 := hid (own_push HOD.out HBD.out (Nat.le_refl _) hgrow)
           have HO2 : Hid (w1.ownsRow w.heap.size 28 2 v' (i + 1) (bxs xs (i + 1))) := by rw [HX.out]; exact hown'
           clear hown' hgrow))
      all_goals (go_wp2; go_roundw)
      all_goals first | exact ⟨i + 1, by omega, by go_num, HO2.out, fun h => by omega, HB2.out⟩ | (simp [intOf]; omega)
    · have e : i = n := by omega
      subst e
      obtain ⟨bo, bc, rfl, hc, hv⟩ := BxV.of_bxs HO.out
      have HV := hid hv
      have HC := hid hc
      have HZ2 : Hid (i = 0 → bo = none ∧ bc = 0) := fun h0 => by
        have := HZ.out h0
        cases this
        exact ⟨rfl, rfl⟩
      clear HO hc hv HZ
      go_wp2
      go_ret
      exact ⟨bo, bc, rfl, HV.out, HC.out, HZ2.out, HB.out⟩

set_option maxHeartbeats 4000000 in
set_option maxRecDepth 100000 in
theorem boxed_any (ao : Option Addr) (n c : Nat) (ps : Nat → Nat) (w : World) (h : WdV w ao n ps) (hn : n * 8 ≤ 140737488355328) :
    Calls Tryz.prog 83 #[.slice ao n c] w fun e w' => ∃ bo bc, e = .returned (.slice bo (n / 2) bc) ∧ BxV w' bo (n / 2) (fun i => (ps (i * 2), ps (i * 2 + 1))) ∧ n / 2 ≤ bc ∧ Below w.heap.size w w' := by
  obtain ⟨i0, hi, hz0, hz1, hz2⟩ := info_parts infoBox
  have HW := hid h
  clear h
  obtain ⟨xs, hxs⟩ : ∃ xs : Nat → Nat × Nat, xs = fun i => (ps (i * 2), ps (i * 2 + 1)) := ⟨_, rfl⟩
  rw [← hxs]
  go_enter Tryz.func83, Tryz.ntmps83
  go_wp2
  go_loopw [3, 4] (fun v x wr => ∃ i : Nat, i ≤ n / 2 ∧ x = .int .i64 ((i * 2 : Nat) : Int) ∧ wr.ownsRow w.heap.size 28 2 v i (bxs xs i) ∧ Below w.heap.size w wr) (fun _ x _ => n - (intOf x).toNat)
  case atStart => exact ⟨0, Nat.zero_le _, rfl, World.ownsRow_nil _ _ _ _, Below.refl _ _⟩
  case round =>
    obtain ⟨i, hi1, rfl, hown, hb⟩ := hrel
    have HO := hid hown
    have HB := hid hb
    clear hown hb
    by_cases hin : i * 2 + 1 < n
    · obtain ⟨g, off, rfl, hg, hc⟩ := HW.out.2.resolve_left (by omega)
      have c1 := hc (i * 2) (by omega)
      have c2 := hc (i * 2 + 1) hin
      rw [← HB.out.cell (by exact hg)] at c1 c2
      have HX : Hid (bxs xs (i + 1) = bxs xs i ++ [.int .u64 ((ps (i * 2) : Nat) : Int), .int .u64 ((ps (i * 2 + 1) : Nat) : Int)]) := by
        show _ = _
        rw [bxs_push, hxs]
      generalize ps (i * 2) = y1 at *
      generalize ps (i * 2 + 1) = y2 at *
      have HOD : Hid (wr.drew.ownsRow w.heap.size 28 2 _ i (bxs xs i)) := HO.out
      have HBD : Hid (Below w.heap.size w wr.drew) := HB.out.drew
      clear hc hg HW HO HB
      generalize hj : i * 2 = j at *
      have g1 : decide ((j : Int) + 1 < (n : Int)) = true := decide_eq_true (by omega)
      have hj1 : j < n := by omega
      have hj2 : j + 1 < n := by omega
      have hwr : IntKind.i64.wrap ((j : Int) + 1) = (j : Int) + 1 := by rw [IntKind.wrap_i64]; omega
      have hj3 : 0 ≤ (j : Int) + 1 ∧ (j : Int) + 1 < (n : Int) := by omega
      go_wp2_with fail
      go_region_law (first
        | (refine step_append_mine rfl _ _ 61 rfl w.heap.size 28 i0 (.agg #[.int .u64 0, .int .u64 0]) 2 16 Tryz.underlying61 hi hz0 hz1 hz2 rfl (by decide) _ i (bxs xs i) rfl (HOD.out.alloc _) ⟨_, 0, none⟩ 1 1 [.int .u64 (y1 : Int), .int .u64 (y2 : Int)] rfl rfl (two_of_blk (blk_new _ _)) (by simp [Value.oneCell']) (by unfold maxLen; omega) (by omega) (by have := HBD.out.size; simp at this ⊢; omega) ?_
           intro v' w1 hown' hgrow
           have HB2 := hid (own_push HOD.out HBD.out (Nat.le_refl _) hgrow)
           have HO2 : Hid (w1.ownsRow w.heap.size 28 2 v' (i + 1) (bxs xs (i + 1))) := by rw [HX.out]; exact hown'
           clear hown' hgrow))
      all_goals (go_wp2; go_roundw)
      all_goals first | exact ⟨i + 1, by omega, by rw [← hj]; go_num, HO2.out, HB2.out⟩ | (simp [intOf]; omega)
    · have e : i = n / 2 := by omega
      have g1 : decide ((((i * 2 : Nat) : Int)) + 1 < (n : Int)) = false := decide_eq_false (by omega)
      rw [e] at HO
      obtain ⟨bo, bc, rfl, hc, hv⟩ := BxV.of_bxs HO.out
      have HV := hid hv
      have HC := hid hc
      clear HO hc hv
      go_wp2
      go_ret
      exact ⟨bo, bc, rfl, HV.out, HC.out, HB.out⟩
end Go.Proofs.YtonhpkigoplmaaaGreatDoor
namespace Go.Proofs.YtonhpkigoplmaaaGreatDoor
open Go.RowKit

/-- A step's box while calls go on. -/
structure LSt (w W : World) (c : Array Value) : Prop where
  k0 : W.heap[w.heap.size]? = some (.cells c 31 (0, 0))
  hb : Below w.heap.size w W
  sz : w.heap.size + 1 ≤ W.heap.size
theorem LSt.below {w W W' : World} {c : Array Value} (m : LSt w W c) (hb : Below W.heap.size W W') : LSt w W' c := ⟨blk_below m.k0 hb, m.hb.trans (hb.mono m.hb.size), Nat.le_trans m.sz hb.size⟩
end Go.Proofs.YtonhpkigoplmaaaGreatDoor
