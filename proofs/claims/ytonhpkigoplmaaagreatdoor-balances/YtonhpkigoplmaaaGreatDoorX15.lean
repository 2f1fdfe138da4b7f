/-
  SlvO, SlvP, JdgK, SolW, JdgM, JdgL, JdgJ, JdgH, SlvQ, SlvR, JdgN, BalM.
-/
import Derived.Test.YtonhpkigoplmaaaGreatDoorX14
import Derived.Test.YtonhpkigoplmaaaGreatDoorX12
import Derived.Test.YtonhpkigoplmaaaGreatDoorX07
import Derived.Test.YtonhpkigoplmaaaGreatDoorX11
import Derived.Test.YtonhpkigoplmaaaGreatDoorX10
namespace Go.Proofs.YtonhpkigoplmaaaGreatDoor
open Go.RowKit Go.Extern Ieee
attribute [local go_sem] run_store_float

theorem El.of_eqs {w W : World} {gr n : Nat} {gb cap : Nat → Nat} {M : Nat → Nat → Nat × Nat} (s : Eqs w W gr n gb cap M n) (iv : ∀ y x, y < n → x ≤ n → ivW (M y x)) : El w W gr n gb cap M 0 := by
  obtain ⟨cur, h1, h2, h3⟩ := s.blk
  exact ⟨⟨⟨cur, h1, h2, fun j hj => by rw [h3 j hj, if_pos hj]⟩, s.rows, s.inj, s.caps⟩, s.hb, s.gg, s.gs, fun y x hy _ hx => iv y x hy hx, fun y hy => by omega⟩
theorem Eqs.below {w W W' : World} {gr n : Nat} {gb cap : Nat → Nat} {M : Nat → Nat → Nat × Nat} {i : Nat} (s : Eqs w W gr n gb cap M i) (hb : Below W.heap.size W W') : Eqs w W' gr n gb cap M i := by
  obtain ⟨cur, h1, h2⟩ := s.blk
  exact ⟨s.hb.trans (hb.mono s.hb.size), ⟨cur, blk_below h1 hb, h2⟩, s.gg, fun j hj => (s.rows j hj).below hb, s.gs, s.inj, s.caps⟩

set_option maxHeartbeats 8000000 in
set_option maxRecDepth 100000 in
theorem solve_bad (A : Nat → Addr) (ao bo : Option Addr) (m ca n cb : Nat) (ln : Nat → Nat) (w : World) (hS : Sents A w) (hh : Heads w ao m ln) (hm : m < 4611686018427387904) (hn : n < 4611686018427387904) (hl : ∀ i, i < m → ln i < 4611686018427387904) (hq : ¬ Square n m ln) :
    Calls Tryz.prog 54 #[.slice ao m ca, .slice bo n cb] w fun e w' => Below w.heap.size w w' ∧ e = .returned (.tuple #[.slice none 0 0, .iface 229 (.pointer (some (A 7)))]) := by
  have HI := hid' (isSquare_any ao m ca n ln w hh hm hn hl)
  have HQ := hid' hq
  have c7 : w.cell? ⟨7, 0, none⟩ = some (.iface 229 (.pointer (some (A 7)))) := hS.cell 7 (by omega)
  clear hS hh hl hq
  go_enter Tryz.func54, Tryz.ntmps54
  go_wp2_with fail
  refine Calls.mono HI.out ?_
  rintro e w1 ⟨rfl, ⟨hs, rfl⟩ | ⟨hs, rfl⟩⟩
  · exact absurd hs HQ.out
  · clear hs HQ HI
    go_wp2_with fail
    go_region
    all_goals go_wp2
    all_goals (refine bodyPost_ret (v := .tuple #[.slice none 0 0, .iface 229 (.pointer (some (A 7)))]) (by simp [results, Tryz.results54, go_sem]) rfl ?_; exact ⟨(Below.refl _ _).drew, rfl⟩)

set_option maxHeartbeats 16000000 in
set_option maxRecDepth 100000 in
theorem solve_good (A : Nat → Addr) (ga n ca gB cB : Nat) (gA cA : Nat → Nat) (R : Nat → Nat → Nat × Nat) (B : Nat → Nat × Nat) (w : World) (hS : Sents A w) (hn0 : n ≠ 0) (hn : n ≤ 4)
    (hA : ∀ i, i < n → w.cell? ⟨ga, i, none⟩ = some (.slice (some ⟨gA i, 0, none⟩) n (cA i))) (hR : ∀ i, i < n → RowI w (gA i) n (R i)) (hB : RowI w gB n B)
    (iv : ∀ y x, y < n → x ≤ n → ivW (augW n R B y x)) (RES : Option (Nat → Nat × Nat)) (hres : solveX muX suX quX pvX n (augW n R B) (fun _ => (0, 0)) = RES) :
    Calls Tryz.prog 54 #[.slice (some ⟨ga, 0, none⟩) n ca, .slice (some ⟨gB, 0, none⟩) n cB] w fun e w' => Below w.heap.size w w' ∧
      ((∃ y x, y < n ∧ x ≤ n ∧ outW (augW n R B y x) = true) ∧ e = .returned (.tuple #[.slice none 0 0, .iface 229 (.pointer (some (A 2)))]) ∨
       (∀ y x, y < n → x ≤ n → outW (augW n R B y x) = false) ∧ ((∃ g gf, RES = some g ∧ e = .returned (.tuple #[.slice (some ⟨gf, 0, none⟩) n n, .nilIface]) ∧ w.heap.size ≤ gf ∧ RowI w' gf n g ∧ ∀ j, j < n → ivW (g j)) ∨ RES = none ∧ e = .returned (.tuple #[.slice none 0 0, .iface 229 (.pointer (some (A 8)))]))) := by
  have HI := hid' (isSquare_any (some ⟨ga, 0, none⟩) n ca n (fun _ => n) w (.inr ⟨ga, rfl, fun i hi => ⟨_, _, hA i hi⟩⟩) (by omega) (by omega) (fun _ _ => by omega))
  have HQ : Hid (Square n n (fun _ => n)) := ⟨hn0, hn, rfl, fun _ _ => rfl⟩
  have HE := hid' (equations_any ga n ca gB cB gA cA R B w (by omega) hA hR hB)
  have HS := hid' hS
  have IV := hid' iv
  have RS := hid' hres
  generalize augW n R B = M at *
  clear hA hR hB hS iv hres
  go_enter Tryz.func54, Tryz.ntmps54
  go_wp2_with fail
  refine Calls.mono HI.out ?_
  rintro e w1 ⟨hw1, ⟨hs, rfl⟩ | ⟨hs, rfl⟩⟩ <;> subst w1
  · clear hs HQ HI
    go_wp2_with fail
    refine Calls.mono HE.out ?_
    rintro e w1 ⟨gr, gb, cap, rfl, he⟩
    have EQ := hid' he
    clear he HE
    go_wp2_with fail
    go_loopw [21] (fun x wr => ∃ i : Nat, i ≤ n ∧ x = .int .i64 (i : Int) ∧ Eqs w wr gr n gb cap M n ∧ ∀ y x, y < i → x ≤ n → outW (M y x) = false) (fun x _ => n - (intOf x).toNat)
    case atStart => exact ⟨0, Nat.zero_le _, rfl, EQ.out, fun y x hy => by omega⟩
    case round =>
      obtain ⟨i, hin, rfl, he, hno⟩ := hrel
      have EQ := hid' he
      have NO := hid' hno
      clear he hno
      by_cases hi : i < n
      · obtain ⟨cur, k1, k2, k3⟩ := EQ.out.blk
        have h1 : wr.cell? ⟨gr, i, none⟩ = some (.slice (some ⟨gb i, 0, none⟩) (n + 1) (cap i)) := by rw [cell_of_cur k1, k3 i hi, if_pos hi]
        have HF := hid' (containsFunc_any (gb i) (n + 1) (cap i) (M i) wr (EQ.out.rows i hi) (by omega) (fun j hj => IV.out i j hi (by omega)))
        have c5 : ∀ W, Below wr.heap.size wr W → W.cell? ⟨5, 0, none⟩ = some (.iface 229 (.pointer (some (A 2)))) := fun W hW => (HS.out.below (EQ.out.hb.trans (hW.mono EQ.out.hb.size)) (Nat.le_refl _)).cell 2 (by omega)
        have C5 := hid' c5
        clear k1 k2 k3 c5
        go_wp2_with fail
        refine Calls.mono HF.out ?_
        rintro e w2 ⟨hb, ⟨ho, rfl⟩ | ⟨ho, rfl⟩⟩
        · have c5 := C5.out w2 hb
          have HO : Hid (∃ y x, y < n ∧ x ≤ n ∧ outW (M y x) = true) := by
            obtain ⟨j, hj, h⟩ := ho
            exact ⟨i, j, hi, by omega, h⟩
          have HBB := hid' (EQ.out.below hb).hb
          clear HF C5 NO ho EQ hb h1
          go_wp2_with fail
          go_region
          all_goals go_wp2
          all_goals (refine bodyPost_ret (v := .tuple #[.slice none 0 0, .iface 229 (.pointer (some (A 2)))]) (by simp [results, Tryz.results54, go_sem]) rfl ?_; exact ⟨HBB.out.drew, .inl ⟨HO.out, rfl⟩⟩)
        · have NO2 : Hid (∀ y x, y < i + 1 → x ≤ n → outW (M y x) = false) := fun y x hy hx => by
            by_cases hyi : y = i
            · rw [hyi]; exact ho x (by omega)
            · exact NO.out y x (by omega) hx
          have EQ := hid' (EQ.out.below hb)
          clear HF C5 NO ho hb h1
          go_wp2
          go_roundw
          case rel => exact ⟨i + 1, by omega, by go_num, EQ.out, NO2.out⟩
          case measure => simp [intOf]; omega
      · have NO2 : Hid (∀ y x, y < n → x ≤ n → outW (M y x) = false) := fun y x hy hx => NO.out y x (by omega) hx
        have HEL := hid' (eliminate_any A gr n n gb cap M w wr HS.out (by omega) (Nat.le_refl _) (El.of_eqs EQ.out IV.out))
        clear NO EQ
        go_wp2_with fail
        refine Calls.mono HEL.out ?_
        rintro e w2 ⟨hb, ⟨gb2, cap2, M2, e1, rfl, hel⟩ | ⟨e1, rfl⟩⟩
        · have RS2 : Hid (substX muX suX quX n M2 n (fun _ => (0, 0)) = RES) := by
            show _ = _
            rw [← RS.out]
            unfold solveX
            rw [e1]; rfl
          have HSB := hid' (substitute_walk A gr n n gb2 cap2 M2 w w2 HS.out (by omega) hel RES RS2.out)
          have HB2 := hid' hb
          clear hb hel e1 HEL RS2
          go_wp2_with fail
          refine Calls.mono HSB.out ?_
          rintro e w3 ⟨hb3, ⟨g, gf, e2, rfl, hgf, hrow, hiv⟩ | ⟨e2, rfl⟩⟩
          · have HB3 := hid' (HB2.out.trans (hb3.mono HB2.out.size))
            have HGF : Hid (w.heap.size ≤ gf) := Nat.le_trans HB2.out.size hgf
            have HRW := hid' hrow
            have HIV := hid' hiv
            have E2 := hid' e2
            clear hb3 hgf hrow hiv e2 HSB
            go_wp2
            refine bodyPost_ret (v := .tuple #[.slice (some ⟨gf, 0, none⟩) n n, .nilIface]) (by simp [results, Tryz.results54, go_sem]) rfl ?_
            exact ⟨HB3.out, .inr ⟨NO2.out, .inl ⟨g, gf, E2.out, rfl, HGF.out, HRW.out, HIV.out⟩⟩⟩
          · have HB3 := hid' (HB2.out.trans (hb3.mono HB2.out.size))
            have E2 := hid' e2
            clear hb3 e2 HSB
            go_wp2
            refine bodyPost_ret (v := .tuple #[.slice none 0 0, .iface 229 (.pointer (some (A 8)))]) (by simp [results, Tryz.results54, go_sem]) rfl ?_
            exact ⟨HB3.out, .inr ⟨NO2.out, .inr ⟨E2.out, rfl⟩⟩⟩
        · have E2 : Hid (RES = none) := by
            show _ = _
            rw [← RS.out]
            unfold solveX
            rw [e1]; rfl
          have HB2 := hid' hb
          clear hb e1 HEL
          go_wp2
          refine bodyPost_ret (v := .tuple #[.slice none 0 0, .iface 229 (.pointer (some (A 8)))]) (by simp [results, Tryz.results54, go_sem]) rfl ?_
          exact ⟨HB2.out, .inr ⟨NO2.out, .inr ⟨E2.out, rfl⟩⟩⟩
  · exact absurd HQ.out hs
end Go.Proofs.YtonhpkigoplmaaaGreatDoor
namespace Go.Proofs.YtonhpkigoplmaaaGreatDoor
open Go.RowKit Go.Extern Ieee

/-- m rows: v is the list of their heads hv, each row a list of one's own. -/
structure Rws (b bl : Nat) (W : World) (v : Value) (m : Nat) (hv : Nat → Value) (ln : Nat → Nat) (R : Nat → Nat → Nat × Nat) : Prop where
  own : W.ownsRow b 86 1 v m ((List.range m).map hv)
  row : ∀ j, j < m → W.ownsRow b 67 2 (hv j) (ln j) (ivs (R j) (ln j))
  last : ∀ l, m = l + 1 → W.ownsRow bl 67 2 (hv l) (ln l) (ivs (R l) (ln l))
  low : ∀ i k, i + 1 < m → (hv i).ownBlock = some k → k < bl
  ge : b ≤ bl
  le : bl ≤ W.heap.size

theorem own_slice {W : World} {b s n : Nat} {T : TypeId} {v : Value} {xs : List Value} (h : W.ownsRow b T s v n xs) : ∃ po pc, v = .slice po n pc := by
  obtain ⟨-, ⟨rfl, rfl⟩ | ⟨g, c, cur, rfl, -⟩⟩ := h
  · exact ⟨_, _, rfl⟩
  · exact ⟨_, _, rfl⟩

theorem Rws.cells {b bl : Nat} {W : World} {v : Value} {m : Nat} {hv : Nat → Value} {ln : Nat → Nat} {R : Nat → Nat → Nat × Nat} (s : Rws b bl W v m hv ln R) (hm : m ≠ 0) : ∃ g c, v = .slice (some ⟨g, 0, none⟩) m c ∧ b ≤ g ∧ m ≤ c ∧ ∀ j, j < m → W.cell? ⟨g, j, none⟩ = some (hv j) := by
  obtain ⟨-, ⟨-, h0⟩ | ⟨g, c, cur, e1, hb, h1, h2, h3, h4, h5⟩⟩ := s.own
  · exact absurd h0 hm
  · refine ⟨g, c, e1, hb, h2, fun j hj => ?_⟩
    rw [cell_of_cur h1, ← Array.getElem?_toList, ← List.getElem?_take_of_lt (show j < m * 1 by omega), h5, List.getElem?_map, List.getElem?_range hj]
    rfl

theorem Rws.heads {b bl : Nat} {W : World} {m c : Nat} {ao : Option Addr} {hv : Nat → Value} {ln : Nat → Nat} {R : Nat → Nat → Nat × Nat} (s : Rws b bl W (.slice ao m c) m hv ln R) : Heads W ao m ln := by
  by_cases hm : m = 0
  · exact .inl hm
  · obtain ⟨g, c', e1, hb, hc, h⟩ := s.cells hm
    cases e1
    refine .inr ⟨g, rfl, fun i hi => ?_⟩
    obtain ⟨po, pc, e⟩ := own_slice (s.row i hi)
    exact ⟨po, pc, by rw [h i hi, e]⟩

theorem Rws.good {b bl : Nat} {W : World} {v : Value} {n : Nat} {hv : Nat → Value} {ln : Nat → Nat} {R : Nat → Nat → Nat × Nat} (s : Rws b bl W v n hv ln R) (hq : Square n n ln) :
    ∃ (ga ca : Nat) (gA cA : Nat → Nat), v = .slice (some ⟨ga, 0, none⟩) n ca ∧ (∀ i, i < n → W.cell? ⟨ga, i, none⟩ = some (.slice (some ⟨gA i, 0, none⟩) n (cA i))) ∧ ∀ i, i < n → RowI W (gA i) n (R i) := by
  obtain ⟨h0, h4, -, hl⟩ := hq
  obtain ⟨ga, ca, e1, hb, hc, h⟩ := s.cells h0
  have key : ∀ i, ∃ p : Nat × Nat, i < n → hv i = .slice (some ⟨p.1, 0, none⟩) n p.2 ∧ RowI W p.1 n (R i) := by
    intro i
    by_cases hi : i < n
    · have hr := s.row i hi
      rw [hl i hi] at hr
      obtain ⟨g, c, e, -, -, hrow⟩ := RowI.of_owns hr h0
      exact ⟨(g, c), fun _ => ⟨e, hrow⟩⟩
    · exact ⟨(0, 0), fun h => absurd h hi⟩
  refine ⟨ga, ca, fun i => (Classical.choose (key i)).1, fun i => (Classical.choose (key i)).2, e1, fun i hi => ?_, fun i hi => (Classical.choose_spec (key i) hi).2⟩
  rw [h i hi, (Classical.choose_spec (key i) hi).1]

theorem own_block {W : World} {b s n g : Nat} {T : TypeId} {u : Value} {xs : List Value} (h : W.ownsRow b T s u n xs) (hu : u.ownBlock = some g) : b ≤ g ∧ ∃ cur, W.heap[g]? = some (.cells cur T (0, 0)) := by
  obtain ⟨-, ⟨rfl, -⟩ | ⟨g', c, cur, rfl, hb, h1, -⟩⟩ := h
  · simp [Value.ownBlock] at hu
  · simp [Value.ownBlock] at hu
    subst hu
    exact ⟨hb, cur, h1⟩
theorem own_grown {W W' : World} {b s n : Nat} {k : Option Nat} {T : TypeId} {u : Value} {xs : List Value} (h : W.ownsRow b T s u n xs) (hg : W.grownBy W' k) (hne : ∀ j, u.ownBlock = some j → k ≠ some j) : W'.ownsRow b T s u n xs := by
  obtain ⟨hl, ⟨rfl, h0⟩ | ⟨g', c, cur, rfl, hb, h1, h2⟩⟩ := h
  · exact ⟨hl, .inl ⟨rfl, h0⟩⟩
  · refine ⟨hl, .inr ⟨g', c, cur, rfl, hb, ?_, h2⟩⟩
    rw [hg.block g' (lt_of_row h1) (fun e => hne g' (by simp [Value.ownBlock]) e.symm)]
    exact h1
theorem own_ne {W : World} {b b' s s' n n' g : Nat} {T T' : TypeId} {u u' : Value} {xs xs' : List Value} (h : W.ownsRow b T s u n xs) (h' : W.ownsRow b' T' s' u' n' xs') (ht : T ≠ T') (hu : u.ownBlock = some g) : u'.ownBlock ≠ some g := by
  intro hu'
  obtain ⟨-, c, e⟩ := own_block h hu
  obtain ⟨-, c', e'⟩ := own_block h' hu'
  rw [e] at e'
  cases e'
  exact ht rfl
theorem map_upd (hv : Nat → Value) (m : Nat) (x : Value) : (List.range (m + 1)).map (upd hv m x) = (List.range m).map hv ++ [x] := by
  rw [List.range_succ, List.map_append]
  congr 1
  · refine List.map_congr_left fun j hj => ?_
    have := List.mem_range.1 hj
    rw [upd_ne (by omega)]
  · simp [upd_same]

/-- A new row, nil as yet. -/
theorem Rws.push_nil {b bl : Nat} {W W' : World} {v v' : Value} {m : Nat} {hv : Nat → Value} {ln : Nat → Nat} {R : Nat → Nat → Nat × Nat} (s : Rws b bl W v m hv ln R) (hb : b ≤ W.heap.size) (ho : W'.ownsRow b 86 1 v' (m + 1) ((List.range m).map hv ++ [.slice none 0 0])) (hg : W.grownBy W' v.ownBlock) : Rws b W.heap.size W' v' (m + 1) (upd hv m (.slice none 0 0)) (upd ln m 0) R := by
  have hr : ∀ j, j < m → W'.ownsRow b 67 2 (hv j) (ln j) (ivs (R j) (ln j)) := fun j hj => own_grown (s.row j hj) hg fun k hk => own_ne (s.row j hj) s.own (by decide) hk
  have hnil : ∀ b', W'.ownsRow b' 67 2 (.slice none 0 0) 0 (ivs (R m) 0) := fun b' => ⟨rfl, .inl ⟨rfl, rfl⟩⟩
  refine ⟨by rw [map_upd]; exact ho, fun j hj => ?_, fun l hl => ?_, fun i k hi hk => ?_, hb, hg.size⟩
  · by_cases hjm : j = m
    · subst hjm; rw [upd_same, upd_same]; exact hnil b
    · rw [upd_ne hjm, upd_ne hjm]; exact hr j (by omega)
  · obtain rfl : l = m := by omega
    rw [upd_same, upd_same]; exact hnil _
  · rw [upd_ne (by omega)] at hk
    obtain ⟨-, c, e⟩ := own_block (s.row i (by omega)) hk
    exact lt_of_row e
end Go.Proofs.YtonhpkigoplmaaaGreatDoor
namespace Go.Proofs.YtonhpkigoplmaaaGreatDoor
open Go.RowKit Go.Extern Ieee

end Go.Proofs.YtonhpkigoplmaaaGreatDoor
namespace Go.Proofs.YtonhpkigoplmaaaGreatDoor

theorem huge_pw : huge = pw 200 := by
  have h := pw_nat 200
  rw [show ((200 : Nat) : Int) = 200 by rfl] at h
  rw [h]
  unfold huge
  rw [show (2 ^ 200 : Nat) = 1606938044258990275541962092341162602522202993782792835301376 by decide]
  rfl
theorem huge_big : huge ≤ pw 899 := by rw [huge_pw]; exact pw_le (by omega)
theorem eps_pw : eps * pw 52 = 1 := by
  have h := pw_nat 52
  rw [show ((52 : Nat) : Int) = 52 by rfl] at h
  rw [h, show (2 ^ 52 : Nat) = 4503599627370496 by decide]
  unfold eps
  grind
theorem tiny_huge : tiny * huge = 1 := by
  unfold tiny huge
  grind
theorem small_eta : pw (-900) ≤ eps * tiny := by
  have h1 := pw_le (a := -900) (b := -252) (by omega)
  have h2 := pw_add (-252) 252
  have h3 := pw_add 52 200
  rw [show (-252 : Int) + 252 = 0 by rfl, pw_zero] at h2
  rw [show (52 : Int) + 200 = 252 by rfl, ← huge_pw] at h3
  have h4 := eps_pw
  have h5 := tiny_huge
  have h6 : pw (-252) = eps * tiny := by
    have e1 : pw (-252) = pw (-252) * ((eps * pw 52) * (tiny * huge)) := by rw [h4, h5]; grind
    have e2 : pw (-252) * ((eps * pw 52) * (tiny * huge)) = (pw (-252) * pw 252) * (eps * tiny) := by rw [h3]; grind
    rw [e1, e2, ← h2]; grind
  rw [← h6]; exact h1

theorem solveW_near {n : Nat} (hn : n ≤ 4) {M : Nat → Nat → Nat × Nat} {z : Nat → Nat × Nat} {R : Nat → Nat → Rat} {V : Rat} (hV : V = 0 ∨ 16 * vLow ≤ V) (hV2 : 16 * V ≤ vHigh)
    (oks : ∀ i j, i < n → j ≤ n → ivW (M i j)) (pts : ∀ i j, i < n → j ≤ n → loW (M i j) = R i j ∧ hiW (M i j) = R i j) (low : ∀ i, i < n → 1 / 1073741824 ≤ ab (R i i)) (high : ∀ i, i < n → ab (R i i) ≤ 1073741824)
    (dom : ∀ i, i < n → sumR n (fun j => ab (R i j)) ≤ 5 / 4 * ab (R i i)) (rb : ∀ i, i < n → bd (ab (R i i) * V) (R i n)) :
    ∃ g, solveX muX suX quX pvX n M z = some g ∧ ∀ i, i < n → ivW (g i) ∧ hiW (g i) - loW (g i) ≤ V / 2147483648 :=
  solveX_near near hn hV hV2 small_eta huge_big oks pts low high dom rb
end Go.Proofs.YtonhpkigoplmaaaGreatDoor
namespace Go.Proofs.YtonhpkigoplmaaaGreatDoor
open Go.RowKit Go.Extern Ieee

theorem val_30a : valW 4472074429978902528 = pw (-30) := by
  have h : plT 4472074429978902528 = (false, 4503599627370496, -82) := rfl
  unfold valW
  rw [h]
  have h2 := pw_nat 52
  rw [show ((52 : Nat) : Int) = 52 by rfl, show (2 ^ 52 : Nat) = 4503599627370496 by decide] at h2
  have h3 := pw_add 52 (-82)
  rw [show (52 : Int) + -82 = -30 by rfl] at h3
  rw [h3, h2]
  unfold valQ sg
  simp only [Bool.false_eq_true, if_false]
  rw [Rat.intCast_natCast]
theorem val_30b : valW 4742290407621132288 = pw 30 := by
  have h : plT 4742290407621132288 = (false, 4503599627370496, -22) := rfl
  unfold valW
  rw [h]
  have h2 := pw_nat 52
  rw [show ((52 : Nat) : Int) = 52 by rfl, show (2 ^ 52 : Nat) = 4503599627370496 by decide] at h2
  have h3 := pw_add 52 (-22)
  rw [show (52 : Int) + -22 = 30 by rfl] at h3
  rw [h3, h2]
  unfold valQ sg
  simp only [Bool.false_eq_true, if_false]
  rw [Rat.intCast_natCast]

theorem reach_fair {x : Nat} (hx : x < 18446744073709551616) (hp : plainN x = some (plT x)) : reachW x = fairT (plT x) := by
  obtain ⟨h1, h2⟩ := abs_plain hx hp
  have q1 := plA_le (x := 4472074429978902528) (y := absW x) (by unfold PlA; omega) h1
  have q2 := plA_le (x := absW x) (y := 4742290407621132288) h1 (by unfold PlA; omega)
  have q3 := plA_le (x := absW x) (y := 0) h1 (by unfold PlA; omega)
  rw [h2, val_30a] at q1
  rw [h2, val_30b] at q2
  rw [h2, show valW 0 = 0 from val_zero rfl] at q3
  unfold reachW fairT
  rw [show valQ (plT x) = valW x from rfl]
  have e3 : absW x = 0 ↔ valW x = 0 := by
    constructor
    · intro h
      have := q3.2 (by omega)
      rcases ab_cases (valW x) with ⟨_, _⟩ | ⟨_, _⟩ <;> grind
    · intro h
      have := q3.1 (by rw [h, ab_zero]; grind)
      omega
  rw [decide_eq_decide.2 e3, decide_eq_decide.2 q1, decide_eq_decide.2 q2]

theorem held_fact {n : Nat} (hn : n ≤ 4) {M : Nat → Nat → Nat × Nat} {z g : Nat → Nat × Nat} {R : Nat → Nat → Rat} (h : solveX muX suX quX pvX n M z = some g) (iv : ∀ y x, y < n → x ≤ n → ivW (M y x)) (mem : ∀ y x, y < n → x ≤ n → memW (M y x) (R y x)) :
    detR n R ≠ 0 ∧ ∀ i, i < n → ivW (g i) ∧ memW (g i) (detR n (colR R (fun y => R y n) i) / detR n R) := by
  have := solveX_mem holding hn h (fun y x hy hx => ⟨iv y x hy hx, mem y x hy hx⟩)
  exact ⟨this.1, fun i hi => this.2 i hi⟩

theorem scaled {lo hi x d : Rat} (hd : d ≠ 0) (h1 : lo ≤ x / d) (h2 : x / d ≤ hi) : (0 < d → lo * d ≤ x ∧ x ≤ hi * d) ∧ (d < 0 → hi * d ≤ x ∧ x ≤ lo * d) := by
  have e : x / d * d = x := by rw [Rat.div_def, Rat.mul_assoc, Rat.inv_mul_cancel _ hd, Rat.mul_one]
  generalize x / d = t at *
  constructor
  · intro hp
    have a := mul_le_r (Rat.le_of_lt hp) h1
    have b := mul_le_r (Rat.le_of_lt hp) h2
    grind
  · intro hp
    have hp' : (0 : Rat) ≤ -d := by grind
    have a := mul_le_r hp' h1
    have b := mul_le_r hp' h2
    grind

def maxR : Nat → (Nat → Rat) → Rat
  | 0, _ => 0
  | n + 1, f => if maxR n f ≤ f n then f n else maxR n f
theorem maxR_ge {f : Nat → Rat} : ∀ {n i : Nat}, i < n → f i ≤ maxR n f
  | 0, i, h => by omega
  | n + 1, i, h => by
    unfold maxR
    by_cases hi : i = n
    · subst hi
      split <;> grind
    · have := maxR_ge (f := f) (n := n) (i := i) (by omega)
      split <;> grind
theorem maxR_pick {f : Nat → Rat} : ∀ n : Nat, maxR n f = 0 ∨ ∃ i, i < n ∧ maxR n f = f i
  | 0 => .inl rfl
  | n + 1 => by
    unfold maxR
    split
    · exact .inr ⟨n, by omega, rfl⟩
    · rcases maxR_pick (f := f) n with h | ⟨i, hi, h⟩
      · exact .inl h
      · exact .inr ⟨i, by omega, h⟩

theorem sumR_ab (n : Nat) (f : Nat → Rat) : ab (sumR n f) ≤ sumR n (fun j => ab (f j)) := by
  induction n with
  | zero => show ab 0 ≤ 0; rw [ab_zero]; grind
  | succ n ih =>
    show ab (sumR n f + f n) ≤ sumR n (fun j => ab (f j)) + ab (f n)
    have := ab_le (bd_add (bd_ab (sumR n f)) (bd_ab (f n)))
    grind
theorem sumR_le {n : Nat} {f g : Nat → Rat} (h : ∀ j, j < n → f j ≤ g j) : sumR n f ≤ sumR n g := by
  induction n with
  | zero => show (0 : Rat) ≤ 0; grind
  | succ n ih =>
    have h1 := ih fun j hj => h j (by omega)
    have h2 := h n (by omega)
    show sumR n f + f n ≤ sumR n g + g n
    grind
theorem sumR_mul (n : Nat) (f : Nat → Rat) (c : Rat) : sumR n (fun j => f j * c) = sumR n f * c := by
  induction n with
  | zero => show (0 : Rat) = 0 * c; grind
  | succ n ih =>
    show sumR n (fun j => f j * c) + f n * c = (sumR n f + f n) * c
    rw [ih]; grind

theorem div_mul_self {x d : Rat} (hd : d ≠ 0) : x / d * d = x := by rw [Rat.div_def, Rat.mul_assoc, Rat.inv_mul_cancel _ hd, Rat.mul_one]

/-- Cramer, divided. -/
theorem cramer {n : Nat} (hn : n ≤ 4) (R : Nat → Nat → Rat) (h0 : detR n R ≠ 0) (i : Nat) (hi : i < n) : sumR n (fun j => R i j * (detR n (colR R (fun y => R y n) j) / detR n R)) = R i n := by
  have h := det_solves hn R (fun y => R y n) i hi
  have e : sumR n (fun j => R i j * (detR n (colR R (fun y => R y n) j) / detR n R)) * detR n R = R i n * detR n R := by
    rw [← h, ← sumR_mul]
    apply sumR_congr
    intro j hj
    have := div_mul_self (x := detR n (colR R (fun y => R y n) j)) h0
    generalize detR n (colR R (fun y => R y n) j) / detR n R = t at *
    rw [← this]; grind
  generalize sumR n (fun j => R i j * (detR n (colR R (fun y => R y n) j) / detR n R)) = S at *
  generalize detR n R = d at *
  have e2 : (S - R i n) * d = 0 := by grind
  rcases Rat.mul_eq_zero.1 e2 with h | h
  · grind
  · exact absurd h h0

theorem div_le_of {x y c : Rat} (hy : 0 < y) (h : x ≤ c * y) : x / y ≤ c := by
  have e := div_mul_self (x := x) (d := y) (by grind)
  generalize x / y = t at *
  exact le_cancel hy (by rw [e]; exact h)
theorem le_div_of {x y c : Rat} (hy : 0 < y) (h : c * y ≤ x) : c ≤ x / y := by
  have e := div_mul_self (x := x) (d := y) (by grind)
  generalize x / y = t at *
  exact le_cancel hy (by rw [e]; exact h)

def FairR (q : Rat) : Prop := q = 0 ∨ (1 / 1073741824 ≤ ab q ∧ ab q ≤ 1073741824)

theorem narrow_fact {n : Nat} (hn : n ≤ 4) {M : Nat → Nat → Nat × Nat} {z : Nat → Nat × Nat} {R : Nat → Nat → Rat} (iv : ∀ i j, i < n → j ≤ n → ivW (M i j)) (pts : ∀ i j, i < n → j ≤ n → loW (M i j) = R i j ∧ hiW (M i j) = R i j)
    (fa : ∀ i j, i < n → j ≤ n → FairR (R i j)) (nz : ∀ i, i < n → R i i ≠ 0) (dom : ∀ i, i < n → sumR n (fun j => ab (R i j)) ≤ 5 / 4 * ab (R i i)) :
    ∃ g, solveX muX suX quX pvX n M z = some g ∧ ∀ G : Rat, (∀ j, j < n → ab (valW (g j).1) ≤ G ∧ ab (valW (g j).2) ≤ G) → ∀ i, i < n → valW (g i).2 - valW (g i).1 ≤ G / 1073741824 := by
  have dg : ∀ i, i < n → 1 / 1073741824 ≤ ab (R i i) ∧ ab (R i i) ≤ 1073741824 := fun i hi => (fa i i hi (by omega)).resolve_left (nz i hi)
  have dp : ∀ i, i < n → 0 < ab (R i i) := fun i hi => by have := (dg i hi).1; grind
  have r0 : ∀ i, i < n → ab (R i n) ≤ 1073741824 := fun i hi => by
    rcases fa i n hi (Nat.le_refl _) with h | h
    · rw [h, ab_zero]; grind
    · exact h.2
  generalize hV : maxR n (fun i => ab (R i n) / ab (R i i)) = V
  have ge : ∀ i, i < n → ab (R i n) ≤ V * ab (R i i) := fun i hi => by
    have h1 : ab (R i n) / ab (R i i) ≤ V := by rw [← hV]; exact maxR_ge (f := fun i => ab (R i n) / ab (R i i)) hi
    have h2 := mul_le_r (Rat.le_of_lt (dp i hi)) h1
    rw [div_mul_self (by have := dp i hi; grind)] at h2
    exact h2
  have pick : V = 0 ∨ ∃ i, i < n ∧ V * ab (R i i) = ab (R i n) ∧ 1 / 1152921504606846976 ≤ V ∧ V ≤ 1152921504606846976 := by
    rcases maxR_pick (f := fun i => ab (R i n) / ab (R i i)) n with h | ⟨i, hi, h⟩
    · exact .inl (by rw [← hV, h])
    · rw [hV] at h
      have e := div_mul_self (x := ab (R i n)) (d := ab (R i i)) (by have := dp i hi; grind)
      rw [← h] at e
      rcases fa i n hi (Nat.le_refl _) with h0 | ⟨h1, h2⟩
      · rw [h0, ab_zero] at h
        left
        rw [h, Rat.div_def, Rat.zero_mul]
      · right
        refine ⟨i, hi, e, ?_, ?_⟩
        · rw [h]
          refine le_div_of (dp i hi) ?_
          have := (dg i hi).2
          grind
        · rw [h]
          refine div_le_of (dp i hi) ?_
          have := (dg i hi).1
          grind
  obtain ⟨g, hg, hw⟩ := solveW_near (z := z) hn (V := V) (M := M) (R := R) (by
      rcases pick with h | ⟨_, _, _, h, _⟩
      · exact .inl h
      · right; unfold vLow; grind) (by
      unfold vHigh
      rcases pick with h | ⟨_, _, _, _, h⟩
      · rw [h]; grind
      · grind) iv pts (fun i hi => (dg i hi).1) (fun i hi => (dg i hi).2) dom (fun i hi => bd_of_ab (by have := ge i hi; grind))
  refine ⟨g, hg, fun G hG i hi => ?_⟩
  obtain ⟨d0, hm⟩ := held_fact hn (R := R) hg iv (fun y x hy hx => by
    obtain ⟨a, b⟩ := pts y x hy hx
    unfold memW
    unfold loW at a
    unfold hiW at b
    rw [a, b]; exact ⟨by grind, by grind⟩)
  have hG0 : 0 ≤ G := by
    have h1 := (hG 0 (by omega)).1
    have h2 := ab_nonneg (valW (g 0).1)
    grind
  have hx : ∀ j, j < n → ab (detR n (colR R (fun y => R y n) j) / detR n R) ≤ G := fun j hj => by
    obtain ⟨-, a, b⟩ := hm j hj
    obtain ⟨c, d⟩ := hG j hj
    refine ab_le ⟨?_, ?_⟩
    · have := (bd_of_ab c).1; grind
    · have := (bd_of_ab d).2; grind
  have hVG : V ≤ 5 / 4 * G := by
    rcases pick with h | ⟨k, hk, h, -, -⟩
    · rw [h]; grind
    · have c := cramer hn R d0 k hk
      have a := sumR_ab n (fun j => R k j * (detR n (colR R (fun y => R y n) j) / detR n R))
      rw [c] at a
      have b : sumR n (fun j => ab (R k j * (detR n (colR R (fun y => R y n) j) / detR n R))) ≤ sumR n (fun j => ab (R k j) * G) := sumR_le fun j hj => by
        rw [ab_mul]
        have := mul_le_r (ab_nonneg (R k j)) (hx j hj)
        grind
      rw [sumR_mul] at b
      have e := mul_le_r hG0 (dom k hk)
      have f : V * ab (R k k) ≤ 5 / 4 * G * ab (R k k) := by grind
      exact le_cancel (dp k hk) f
  have h1 := (hw i hi).2
  unfold hiW loW at h1
  grind
end Go.Proofs.YtonhpkigoplmaaaGreatDoor
namespace Go.Proofs.YtonhpkigoplmaaaGreatDoor
open Go.RowKit Go.Extern Ieee

/-- The two products, and what lies between them. -/
theorem between {lo hi x d : Bool × Nat × Int} (hd : valQ d ≠ 0) (h1 : valQ lo ≤ valQ x / valQ d) (h2 : valQ x / valQ d ≤ valQ hi) : (0 ≤ sgnI d.1 d.2.1 → lessT x (prodN lo d) = false ∧ lessT (prodN hi d) x = false) ∧ (sgnI d.1 d.2.1 < 0 → lessT x (prodN hi d) = false ∧ lessT (prodN lo d) x = false) := by
  have key : ∀ a b : Bool × Nat × Int, valQ b ≤ valQ a → lessT a b = false := fun a b h => by
    cases hl : lessT a b with
    | false => rfl
    | true => have := (less_val _ _).1 hl; grind
  obtain ⟨s1, s2⟩ := scaled hd h1 h2
  have sg := (sgn_val d).2
  constructor
  · intro h
    have hp : 0 < valQ d := by have := sg.1 h; grind
    obtain ⟨a, b⟩ := s1 hp
    exact ⟨key _ _ (by rw [val_prod]; exact a), key _ _ (by rw [val_prod]; exact b)⟩
  · intro h
    have hp : valQ d < 0 := by
      apply Decidable.byContradiction
      intro hc
      have := sg.2 (by grind)
      omega
    obtain ⟨a, b⟩ := s2 hp
    exact ⟨key _ _ (by rw [val_prod]; exact a), key _ _ (by rw [val_prod]; exact b)⟩

end Go.Proofs.YtonhpkigoplmaaaGreatDoor
namespace Go.Proofs.YtonhpkigoplmaaaGreatDoor
open Go.RowKit Go.Extern Ieee

end Go.Proofs.YtonhpkigoplmaaaGreatDoor
namespace Go.Proofs.YtonhpkigoplmaaaGreatDoor
open Go.RowKit Go.Extern Ieee

--@def IV(X,Y) #[.bool X.1, .slice ao la ca, .int .i64 X.2.2, .bool Y.1, .slice bo lb cb, .int .i64 Y.2.2]
end Go.Proofs.YtonhpkigoplmaaaGreatDoor
namespace Go.Proofs.YtonhpkigoplmaaaGreatDoor
open Go.RowKit Go.Extern Ieee

theorem Rws.below {b bl : Nat} {W W' : World} {v : Value} {m : Nat} {hv : Nat → Value} {ln : Nat → Nat} {R : Nat → Nat → Nat × Nat} (s : Rws b bl W v m hv ln R) (hb : Below W.heap.size W W') : Rws b bl W' v m hv ln R :=
  ⟨ownsRow_mono s.own hb (Nat.le_refl _), fun j hj => ownsRow_mono (s.row j hj) hb (Nat.le_refl _), fun l hl => ownsRow_mono (s.last l hl) hb (Nat.le_refl _), s.low, s.ge, Nat.le_trans s.le hb.size⟩

theorem own_set {W : World} {b g c l : Nat} {T : TypeId} {hv : Nat → Value} {u : Value} (h : W.ownsRow b T 1 (.slice (some ⟨g, 0, none⟩) (l + 1) c) (l + 1) ((List.range (l + 1)).map hv)) : (W.setCell ⟨g, l, none⟩ u).ownsRow b T 1 (.slice (some ⟨g, 0, none⟩) (l + 1) c) (l + 1) ((List.range (l + 1)).map (upd hv l u)) := by
  obtain ⟨-, ⟨e, -⟩ | ⟨g', c', cur, e, hb, h1, h2, h3, h4, h5⟩⟩ := h
  · cases e
  · cases e
    refine ⟨by simp, .inr ⟨g, c, _, rfl, hb, blk_set_cur h1 l u, h2, h3, by simpa using h4, ?_⟩⟩
    rw [Array.toList_setIfInBounds, List.take_set, h5]
    refine List.ext_getElem? fun i => ?_
    rw [List.getElem?_set]
    by_cases hi : l = i
    · subst hi
      simp [upd_same]
    · rw [if_neg hi]
      by_cases hl : i < l + 1
      · rw [List.getElem?_map, List.getElem?_map, List.getElem?_range hl]
        simp [upd_ne (show i ≠ l by omega)]
      · rw [List.getElem?_eq_none (by simp; omega), List.getElem?_eq_none (by simp; omega)]

theorem Rws.push {b bl : Nat} {W W1 : World} {u' : Value} {l g c : Nat} {hv : Nat → Value} {ln : Nat → Nat} {R : Nat → Nat → Nat × Nat} {p : Nat × Nat} (s : Rws b bl W (.slice (some ⟨g, 0, none⟩) (l + 1) c) (l + 1) hv ln R) (ho : W1.ownsRow bl 67 2 u' (ln l + 1) (ivs (R l) (ln l) ++ [.float .f64 p.1, .float .f64 p.2])) (hg : W.grownBy W1 (hv l).ownBlock) :
    Rws b bl (W1.setCell ⟨g, l, none⟩ u') (.slice (some ⟨g, 0, none⟩) (l + 1) c) (l + 1) (upd hv l u') (upd ln l (ln l + 1)) (upd R l (upd (R l) (ln l) p)) := by
  have hT : (67 : TypeId) ≠ 86 := by decide
  have own1 := own_grown s.own hg fun k hk hk' => own_ne s.own (s.row l (by omega)) hT.symm hk hk'
  have hgb : (Value.slice (some ⟨g, 0, none⟩) (l + 1) c).ownBlock = some g := by simp [Value.ownBlock]
  have hset := grown_set W1 g l u'
  have e1 : ivs (upd (R l) (ln l) p) (ln l + 1) = ivs (R l) (ln l) ++ [.float .f64 p.1, .float .f64 p.2] := by
    rw [ivs_push, upd_same]
    congr 1
    exact ivs_congr fun j hj => upd_ne (by omega)
  have hlast : (W1.setCell ⟨g, l, none⟩ u').ownsRow bl 67 2 u' (ln l + 1) (ivs (upd (R l) (ln l) p) (ln l + 1)) := by
    rw [e1]
    exact own_grown ho hset fun k hk hk' => own_ne own1 ho hT.symm hgb (by rw [hk]; exact hk'.symm)
  refine ⟨own_set own1, fun j hj => ?_, fun l' hl' => ?_, fun i k hi hk => ?_, s.ge, Nat.le_trans s.le (Nat.le_trans hg.size hset.size)⟩
  · by_cases hjl : j = l
    · subst hjl
      rw [upd_same, upd_same, upd_same]
      exact ownsRow_mono hlast (Below.refl _ _) s.ge
    · rw [upd_ne hjl, upd_ne hjl, upd_ne hjl]
      have h1 := own_grown (s.row j hj) hg fun k hk hk' => by
        have a := s.low j k (by omega) hk
        have b := (own_block (s.last l rfl) hk').1
        omega
      exact own_grown h1 hset fun k hk hk' => own_ne own1 h1 hT.symm hgb (by rw [hk]; exact hk'.symm)
  · obtain rfl : l' = l := by omega
    rw [upd_same, upd_same, upd_same]
    exact hlast
  · rw [upd_ne (by omega)] at hk
    exact s.low i k hi hk
end Go.Proofs.YtonhpkigoplmaaaGreatDoor
namespace Go.Proofs.YtonhpkigoplmaaaGreatDoor
open Go.RowKit Go.Extern Ieee

/-- So many rows lie there behind i boxes, and so long is each. -/
def rwM (d i : Nat) : Nat := (i + d - 1) / d
def rwL (d i j : Nat) : Nat := min d (i - j * d)

theorem le5 {d : Nat} (h0 : d ≠ 0) (h : d ≤ 5) : d = 1 ∨ d = 2 ∨ d = 3 ∨ d = 4 ∨ d = 5 := by omega
theorem rw_new {d i : Nat} (h0 : d ≠ 0) (h5 : d ≤ 5) (h : i % d = 0) : rwM d (i + 1) = rwM d i + 1 ∧ (∀ j, j < rwM d i → rwL d i j = rwL d (i + 1) j) ∧ rwL d (i + 1) (rwM d i) = 1 ∧ rwM d i * d = i := by
  unfold rwM rwL
  rcases le5 h0 h5 with rfl | rfl | rfl | rfl | rfl <;> refine ⟨by omega, fun j hj => by omega, by omega, by omega⟩
theorem rw_old {d i : Nat} (h0 : d ≠ 0) (h5 : d ≤ 5) (h : i % d ≠ 0) : ∃ l, rwM d i = l + 1 ∧ rwM d (i + 1) = l + 1 ∧ rwL d (i + 1) l = rwL d i l + 1 ∧ l * d + rwL d i l = i ∧ ∀ j, j < l → rwL d i j = rwL d (i + 1) j := by
  unfold rwM rwL
  rcases le5 h0 h5 with rfl | rfl | rfl | rfl | rfl
  · omega
  · exact ⟨i / 2, by omega, by omega, by omega, by omega, fun j hj => by omega⟩
  · exact ⟨i / 3, by omega, by omega, by omega, by omega, fun j hj => by omega⟩
  · exact ⟨i / 4, by omega, by omega, by omega, by omega, fun j hj => by omega⟩
  · exact ⟨i / 5, by omega, by omega, by omega, by omega, fun j hj => by omega⟩
theorem rwL_le (d i j : Nat) : rwL d i j ≤ d := by unfold rwL; omega
theorem rwM_le {d i : Nat} (h5 : d ≤ 5) : rwM d i ≤ i + 1 := by
  unfold rwM
  by_cases h0 : d = 0
  · subst h0; simp
  · rcases le5 h0 h5 with rfl | rfl | rfl | rfl | rfl <;> omega

theorem square_shp {na d n : Nat} (h5 : d ≤ 5) (hz : d = 0 → na = 0) : Square n (rwM d na) (rwL d na) ↔ Shp na d n := by
  unfold Square Shp
  constructor
  · rintro ⟨h0, h4, hm, hl⟩
    by_cases hd : d = 0
    · exfalso
      rw [hz hd, hd] at hm
      simp [rwM] at hm
      omega
    · refine ⟨h0, h4, hd, ?_⟩
      rcases (show n = 1 ∨ n = 2 ∨ n = 3 ∨ n = 4 by omega) with rfl | rfl | rfl | rfl
      · have a := hl 0 (by omega)
        unfold rwM at hm
        unfold rwL at a
        rcases le5 hd h5 with rfl | rfl | rfl | rfl | rfl <;> omega
      · have a := hl 0 (by omega)
        have b := hl 1 (by omega)
        unfold rwM at hm
        unfold rwL at a b
        rcases le5 hd h5 with rfl | rfl | rfl | rfl | rfl <;> omega
      · have a := hl 0 (by omega)
        have b := hl 2 (by omega)
        unfold rwM at hm
        unfold rwL at a b
        rcases le5 hd h5 with rfl | rfl | rfl | rfl | rfl <;> omega
      · have a := hl 0 (by omega)
        have b := hl 3 (by omega)
        unfold rwM at hm
        unfold rwL at a b
        rcases le5 hd h5 with rfl | rfl | rfl | rfl | rfl <;> omega
  · rintro ⟨h0, h4, hd, h⟩
    refine ⟨h0, h4, ?_, fun i hi => ?_⟩
    · unfold rwM
      rcases h with ⟨rfl, rfl⟩ | ⟨h1, rfl, rfl⟩
      · rcases le5 hd h5 with rfl | rfl | rfl | rfl | rfl <;> omega
      · rcases (show d = 1 ∨ d = 2 ∨ d = 3 ∨ d = 4 by omega) with rfl | rfl | rfl | rfl <;> omega
    · unfold rwL
      rcases h with ⟨rfl, rfl⟩ | ⟨h1, rfl, rfl⟩
      · rcases le5 hd h5 with rfl | rfl | rfl | rfl | rfl <;> omega
      · rcases (show d = 1 ∨ d = 2 ∨ d = 3 ∨ d = 4 by omega) with rfl | rfl | rfl | rfl <;> omega

/-- The system, as enclose.Solve has it. -/
def sysW (d n : Nat) (P Qb : Nat → Nat × Nat) : Nat → Nat → Nat × Nat := augW n (fun j x => cB (P (j * d + x))) (fun j => cB (Qb j))

/-- The code, the answer's length, and the answer. -/
def SolIs (na d n : Nat) (P Qb : Nat → Nat × Nat) (k len : Nat) (xs : Nat → Nat × Nat) : Prop :=
  (¬ Shp na d n ∧ k = 8 ∧ len = 0) ∨ (Shp na d n ∧ (((∃ y x, y < n ∧ x ≤ n ∧ outW (sysW d n P Qb y x) = true) ∧ k = 3 ∧ len = 0) ∨ ((∀ y x, y < n → x ≤ n → outW (sysW d n P Qb y x) = false) ∧
    ((solveX muX suX quX pvX n (sysW d n P Qb) (fun _ => (0, 0)) = none ∧ k = 9 ∧ len = 0) ∨ (solveX muX suX quX pvX n (sysW d n P Qb) (fun _ => (0, 0)) = some xs ∧ k = 0 ∧ len = n)))))
theorem Rws.congr {b bl : Nat} {W : World} {v : Value} {m m' : Nat} {hv : Nat → Value} {ln ln' : Nat → Nat} {R R' : Nat → Nat → Nat × Nat} (s : Rws b bl W v m hv ln R) (hm : m = m') (h1 : ∀ j, j < m → ln j = ln' j) (h2 : ∀ j x, j < m → x < ln j → R j x = R' j x) : Rws b bl W v m' hv ln' R' := by
  subst hm
  have key : ∀ j, j < m → ivs (R j) (ln j) = ivs (R' j) (ln' j) := fun j hj => by
    rw [← h1 j hj]
    exact ivs_congr fun x hx => h2 j x hj hx
  refine ⟨s.own, fun j hj => ?_, fun l hl => ?_, s.low, s.ge, s.le⟩
  · rw [← key j hj, ← h1 j hj]; exact s.row j hj
  · rw [← key l (by omega), ← h1 l (by omega)]; exact s.last l hl
theorem Rws.nil (b : Nat) (W : World) (hv : Nat → Value) (ln : Nat → Nat) (R : Nat → Nat → Nat × Nat) (hb : b ≤ W.heap.size) : Rws b b W (.slice none 0 0) 0 hv ln R :=
  ⟨⟨rfl, .inl ⟨rfl, rfl⟩⟩, fun j hj => by omega, fun l hl => by omega, fun i k hi => by omega, Nat.le_refl _, hb⟩

/-- The rows behind i boxes. -/
def RwI (b : Nat) (W : World) (v : Value) (d i : Nat) (C : Nat → Nat × Nat) : Prop := ∃ bl hv, Rws b bl W v (rwM d i) hv (rwL d i) (fun j x => C (j * d + x))

/-- They are ready for one more interval, in the last one. -/
structure RwP (b : Nat) (W : World) (v : Value) (d i : Nat) (C : Nat → Nat × Nat) (bl l g c k : Nat) (hl : Value) (r : Nat → Nat × Nat) : Prop where
  e : v = .slice (some ⟨g, 0, none⟩) (l + 1) c
  cell : W.cell? ⟨g, l, none⟩ = some hl
  nf : W.frozen? ⟨g, l, none⟩ = false
  own : W.ownsRow bl 67 2 hl k (ivs r k)
  gb : b ≤ g
  glt : g < W.heap.size
  le : bl ≤ W.heap.size
  bb : b ≤ bl
  k5 : k ≤ 5
  li : l ≤ i
  step : ∀ W2, Below W.heap.size W W2 → ∀ W1 u', W1.ownsRow bl 67 2 u' (k + 1) (ivs r k ++ [.float .f64 (C i).1, .float .f64 (C i).2]) → W2.grownBy W1 hl.ownBlock → (W1.cell? ⟨g, l, none⟩ = some hl ∧ W1.frozen? ⟨g, l, none⟩ = false) ∧ RwI b (W1.setCell ⟨g, l, none⟩ u') v d (i + 1) C

theorem Rws.head {b bl : Nat} {W : World} {v : Value} {l : Nat} {hv : Nat → Value} {ln : Nat → Nat} {R : Nat → Nat → Nat × Nat} (s : Rws b bl W v (l + 1) hv ln R) : ∃ g c, v = .slice (some ⟨g, 0, none⟩) (l + 1) c ∧ W.cell? ⟨g, l, none⟩ = some (hv l) ∧ W.frozen? ⟨g, l, none⟩ = false ∧ b ≤ g ∧ g < W.heap.size := by
  obtain ⟨g, c, e, hg, hc, h⟩ := s.cells (by omega)
  refine ⟨g, c, e, h l (by omega), ?_, hg, lt_of_cell (h l (by omega))⟩
  subst e
  obtain ⟨-, cur, h1⟩ := own_block s.own (g := g) (by simp [Value.ownBlock])
  simp [World.frozen?, h1]

theorem Rws.grown {b bl : Nat} {W W1 : World} {l g c : Nat} {hv : Nat → Value} {ln : Nat → Nat} {R : Nat → Nat → Nat × Nat} (s : Rws b bl W (.slice (some ⟨g, 0, none⟩) (l + 1) c) (l + 1) hv ln R) (hg : W.grownBy W1 (hv l).ownBlock) : W1.cell? ⟨g, l, none⟩ = some (hv l) ∧ W1.frozen? ⟨g, l, none⟩ = false := by
  have hT : (67 : TypeId) ≠ 86 := by decide
  have own1 := own_grown s.own hg fun k hk hk' => own_ne s.own (s.row l (by omega)) hT.symm hk hk'
  obtain ⟨-, ⟨e, -⟩ | ⟨g', c', cur, e, -, h1, h2, h3, h4, h5⟩⟩ := own1
  · cases e
  · cases e
    refine ⟨?_, by simp [World.frozen?, h1]⟩
    rw [cell_of_cur h1, ← Array.getElem?_toList, ← List.getElem?_take_of_lt (show l < (l + 1) * 1 by omega), h5, List.getElem?_map, List.getElem?_range (by omega)]
    rfl

theorem RwI.below {b : Nat} {W W' : World} {v : Value} {d i : Nat} {C : Nat → Nat × Nat} (s : RwI b W v d i C) (hb : Below W.heap.size W W') : RwI b W' v d i C := by
  obtain ⟨bl, hv, s⟩ := s
  exact ⟨bl, hv, s.below hb⟩

theorem RwI.old {b : Nat} {W : World} {v : Value} {d i : Nat} {C : Nat → Nat × Nat} (s : RwI b W v d i C) (h0 : d ≠ 0) (h5 : d ≤ 5) (h : i % d ≠ 0) : ∃ bl l g c k hl r, RwP b W v d i C bl l g c k hl r := by
  obtain ⟨bl, hv, s⟩ := s
  obtain ⟨l, h1, h2, h3, h4, h6⟩ := rw_old h0 h5 h
  rw [h1] at s
  obtain ⟨g, c, e, hc, hf, hgb, hgl⟩ := s.head
  refine ⟨bl, l, g, c, rwL d i l, hv l, fun x => C (l * d + x), e, hc, hf, s.last l rfl, hgb, hgl, s.le, s.ge, Nat.le_trans (rwL_le _ _ _) h5, ?_, fun W2 hb2 W1 u' ho hg => ?_⟩
  · have := Nat.le_mul_of_pos_right l (Nat.pos_of_ne_zero h0); omega
  subst e
  have s := s.below hb2
  refine ⟨s.grown hg, bl, upd hv l u', (s.push (p := C i) ho hg).congr h2.symm (fun j hj => ?_) (fun j x hj hx => ?_)⟩
  · by_cases hjl : j = l
    · subst hjl; rw [upd_same]; exact h3.symm
    · rw [upd_ne hjl]; exact h6 j (by omega)
  · by_cases hjl : j = l
    · subst hjl
      rw [upd_same]
      by_cases hxl : x = rwL d i j
      · subst hxl; rw [upd_same, h4]
      · rw [upd_ne hxl]
    · rw [upd_ne hjl]

theorem RwI.new {b : Nat} {W W' : World} {v v' : Value} {d i : Nat} {C : Nat → Nat × Nat} {hv : Nat → Value} {bl : Nat} (s : Rws b bl W v (rwM d i) hv (rwL d i) (fun j x => C (j * d + x))) (h0 : d ≠ 0) (h5 : d ≤ 5) (h : i % d = 0) (hb : b ≤ W.heap.size)
    (ho : W'.ownsRow b 86 1 v' (rwM d i + 1) ((List.range (rwM d i)).map hv ++ [.slice none 0 0])) (hg : W.grownBy W' v.ownBlock) : ∃ bl l g c k hl r, RwP b W' v' d i C bl l g c k hl r := by
  obtain ⟨h1, h2, h3, h4⟩ := rw_new h0 h5 h
  have t := s.push_nil hb ho hg
  obtain ⟨g, c, e, hc, hf, hgb, hgl⟩ := t.head
  have hrow := t.last (rwM d i) rfl
  rw [upd_same] at hc
  rw [upd_same, upd_same] at hrow
  refine ⟨W.heap.size, rwM d i, g, c, 0, .slice none 0 0, fun x => C (rwM d i * d + x), e, hc, hf, hrow, hgb, hgl, t.le, t.ge, by omega, ?_, fun W2 hb2 W1 u' ho1 hg1 => ?_⟩
  · have := Nat.le_mul_of_pos_right (rwM d i) (Nat.pos_of_ne_zero h0); omega
  subst e
  have t2 := t.below hb2
  have tg := t2.grown (by rw [upd_same]; exact hg1)
  rw [upd_same] at tg
  refine ⟨tg, _, _, (t2.push (u' := u') (p := C i) (by rw [upd_same]; exact ho1) (by rw [upd_same]; exact hg1)).congr h1.symm (fun j hj => ?_) (fun j x hj hx => ?_)⟩
  · by_cases hjl : j = rwM d i
    · subst hjl; rw [upd_same, upd_same]; exact h3.symm
    · rw [upd_ne hjl, upd_ne hjl]; exact h2 j (by omega)
  · by_cases hjl : j = rwM d i
    · subst hjl
      rw [upd_same, upd_same]
      by_cases hx0 : x = 0
      · subst hx0; rw [upd_same, Nat.add_zero, h4]
      · rw [upd_ne hx0]
    · rw [upd_ne hjl]
end Go.Proofs.YtonhpkigoplmaaaGreatDoor
namespace Go.Proofs.YtonhpkigoplmaaaGreatDoor
open Go.RowKit Go.Extern Ieee

/-- An index into the rows. -/
theorem shp_idx {na d n : Nat} (h : Shp na d n) : na = n * n ∧ ∀ y x, y < n → x < n → y * d + x = n * y + x ∧ n * y + x < na := by
  obtain ⟨h0, h4, hd, h⟩ := h
  rcases h with ⟨rfl, rfl⟩ | ⟨h1, rfl, rfl⟩
  · refine ⟨rfl, fun y x hy hx => ?_⟩
    obtain rfl : y = 0 := by omega
    omega
  · refine ⟨rfl, fun y x hy hx => ⟨by rw [Nat.mul_comm], ?_⟩⟩
    have : d * (y + 1) ≤ d * d := Nat.mul_le_mul_left d (by omega)
    have h3 : d * (y + 1) = d * y + d := Nat.mul_succ d y
    omega
theorem sys_at {na d n : Nat} (h : Shp na d n) (P Qb : Nat → Nat × Nat) {y x : Nat} (hy : y < n) : (x < n → sysW d n P Qb y x = cB (P (n * y + x))) ∧ sysW d n P Qb y n = cB (Qb y) := by
  constructor
  · intro hx
    unfold sysW augW
    rw [if_pos hx]
    show cB (P (y * d + x)) = _
    rw [((shp_idx h).2 y x hy hx).1]
  · unfold sysW augW
    rw [if_neg (Nat.lt_irrefl _)]
theorem sum_split (n i : Nat) (hi : i < n) (f : Nat → Rat) : sumR n f = f i + sumR n (fun j => if j = i then 0 else f j) := by
  induction n with
  | zero => omega
  | succ n ih =>
    show sumR n f + f n = f i + (sumR n (fun j => if j = i then 0 else f j) + (if n = i then 0 else f n))
    by_cases hin : n = i
    · subst hin
      rw [if_pos rfl, show sumR n (fun j => if j = n then 0 else f j) = sumR n f from sumR_congr fun j hj => by rw [if_neg (by omega)]]
      grind
    · rw [if_neg hin, ih (by omega)]; grind
end Go.Proofs.YtonhpkigoplmaaaGreatDoor
namespace Go.Proofs.YtonhpkigoplmaaaGreatDoor
open Go.RowKit Go.Extern Ieee

theorem val_fl {n : Int} (h : n.natAbs < 9007199254740992) : valW (fl n) = (n : Rat) := by
  unfold valW
  rw [val_means (means_fl h), pw_zero, Rat.mul_one]

/-- Each solution is held. -/
theorem solveX_sol {α : Type} {mem : α → Rat → Prop} {mu su qo : α → α → Option α} {pv : (Nat → Nat → α) → Nat → Nat → Option Nat} (H : Holding mem mu su qo pv) {n : Nat} (hn : n ≤ 4) {M : Nat → Nat → α} {z g : Nat → α} {R : Nat → Nat → Rat} {X : Nat → Rat} (h : solveX mu su qo pv n M z = some g) (hR : ∀ y x, y < n → x ≤ n → mem (M y x) (R y x)) (hX : ∀ y, y < n → sumR n (fun j => R y j * X j) = R y n) : ∀ i, i < n → mem (g i) (X i) := by
  obtain ⟨M', h1, h2⟩ := Option.bind_eq_some_iff.1 h
  obtain ⟨R', r1, r2, r3, r4, r5⟩ := elimX_mem H hn n 0 M M' R h1 (by omega) (fun y x _ a _ b => hR y x a b)
  simp only [Nat.zero_add] at r4 r5
  exact substX_mem H (R := R') (X := X) (fun y x a b c => r1 y x (by omega) a b c) (fun y a => r2 y (by omega) a) (fun y a => r5 X (fun y' _ c => hX y' c) y (by omega) a) n z g h2 (Nat.le_refl _) (fun y a b => by omega)

def sumI : Nat → (Nat → Int) → Int
  | 0, _ => 0
  | n + 1, f => sumI n f + f n
theorem sumI_cast (n : Nat) (f : Nat → Int) : ((sumI n f : Int) : Rat) = sumR n (fun j => (f j : Rat)) := by
  induction n with
  | zero => rfl
  | succ n ih =>
    show ((sumI n f + f n : Int) : Rat) = sumR n (fun j => (f j : Rat)) + (f n : Rat)
    rw [Rat.intCast_add, ih]
theorem sumI_congr {n : Nat} {f g : Nat → Int} (h : ∀ j, j < n → f j = g j) : sumI n f = sumI n g := by
  induction n with
  | zero => rfl
  | succ n ih =>
    show sumI n f + f n = sumI n g + g n
    rw [ih fun j hj => h j (by omega), h n (by omega)]
theorem sumI_abs {n : Nat} {f : Nat → Int} {B : Nat} (h : ∀ j, j < n → (f j).natAbs ≤ B) : (sumI n f).natAbs ≤ n * B := by
  induction n with
  | zero => show (0 : Int).natAbs ≤ _; simp
  | succ n ih =>
    have h1 := ih fun j hj => h j (by omega)
    have h2 := h n (by omega)
    have h3 : (n + 1) * B = n * B + B := Nat.succ_mul n B
    show (sumI n f + f n).natAbs ≤ _
    have := Int.natAbs_add_le (sumI n f) (f n)
    omega

/-- The entry at a place of the square. -/
def EntB (n m : Nat) (k : Int) : Prop := (m / n ≠ m % n → k.natAbs ≤ 8) ∧ (m / n = m % n → 100 ≤ k.natAbs ∧ k.natAbs ≤ 103)
def BalP (n : Nat) (K : Nat → Int) : Prop := ∀ m, m < n * n → EntB n m (K m)
theorem entB_le {n m : Nat} {k : Int} (h : EntB n m k) : k.natAbs ≤ 103 := by
  by_cases e : m / n = m % n
  · exact (h.2 e).2
  · have := h.1 e; omega

def bxI (K : Nat → Int) (m : Nat) : Nat × Nat := (fl (K m), fh (K m))
theorem cB_whole {k : Int} (h : k.natAbs < 9007199254740992) : cB (fl k, fh k) = (fl k, fl k) := by
  have i : Iv (fl k) (fh k) := iv_whole (by omega)
  unfold cB
  rw [make_iv i]
  simp only
  rw [(same_whole h).1]
theorem ab_int (v : Int) : ab (v : Rat) = ((v.natAbs : Nat) : Rat) := by
  rcases Int.natAbs_eq v with h | h
  · have hp : (0 : Rat) ≤ (v : Rat) := by rw [h]; exact Rat.intCast_nonneg.2 (by omega)
    have e : (v : Rat) = ((v.natAbs : Nat) : Rat) := by
      have : ((v : Int) : Rat) = (((v.natAbs : Nat) : Int) : Rat) := by rw [← h]
      rw [this, Rat.intCast_natCast]
    rcases ab_cases (v : Rat) with ⟨_, q⟩ | ⟨q, _⟩
    · rw [q, e]
    · grind
  · have e : (v : Rat) = -((v.natAbs : Nat) : Rat) := by
      have : ((v : Int) : Rat) = ((-((v.natAbs : Nat) : Int) : Int) : Rat) := by rw [← h]
      rw [this, Rat.intCast_neg, Rat.intCast_natCast]
    have hp : (0 : Rat) ≤ ((v.natAbs : Nat) : Rat) := Rat.natCast_nonneg
    rcases ab_cases (v : Rat) with ⟨p, q⟩ | ⟨p, q⟩ <;> grind
theorem natCast_le' {a b : Nat} (h : a ≤ b) : (a : Rat) ≤ (b : Rat) := Rat.natCast_le_natCast.2 h
theorem fairR_int {v : Int} (h : v.natAbs ≤ 1073741824) : FairR (v : Rat) := by
  by_cases h0 : v = 0
  · subst h0; exact .inl rfl
  · right
    rw [ab_int]
    have h1 := natCast_le' (show 1 ≤ v.natAbs by omega)
    have h2 := natCast_le' h
    have e1 : ((1 : Nat) : Rat) = 1 := rfl
    have e2 : ((1073741824 : Nat) : Rat) = 1073741824 := rfl
    rw [e1] at h1
    rw [e2] at h2
    exact ⟨by grind, h2⟩
theorem fairT_of {x : Bool × Nat × Int} (h : FairR (valQ x)) : fairT x = true := by
  have h1 := pw_nat 30
  rw [show ((30 : Nat) : Int) = 30 by rfl, show (2 ^ 30 : Nat) = 1073741824 by decide] at h1
  have h2 := pw_add (-30) 30
  rw [show (-30 : Int) + 30 = 0 by rfl, pw_zero, h1] at h2
  have h3 : ((1073741824 : Nat) : Rat) = 1073741824 := rfl
  rw [h3] at h1 h2
  have h4 : pw (-30) = 1 / 1073741824 := by grind
  unfold fairT
  rw [Bool.or_eq_true, Bool.and_eq_true, decide_eq_true_eq, decide_eq_true_eq, decide_eq_true_eq]
  rcases h with h | ⟨a, b⟩
  · exact .inl h
  · exact .inr ⟨by rw [h4]; exact a, by rw [h1]; exact b⟩

theorem sum_eight (n : Nat) : sumR n (fun _ => (8 : Rat)) = 8 * (n : Rat) := by
  induction n with
  | zero => show (0 : Rat) = 8 * ((0 : Nat) : Rat); rw [show ((0 : Nat) : Rat) = 0 by rfl]; grind
  | succ n ih =>
    show sumR n (fun _ => (8 : Rat)) + 8 = _
    rw [ih, Rat.natCast_add, show ((1 : Nat) : Rat) = 1 by rfl]; grind

/-- Such a system is answered, and the answer holds its numbers. -/
theorem bal_solve {n : Nat} (hn0 : n ≠ 0) (hn : n ≤ 4) {K X : Nat → Int} (hK : BalP n K) (hX : ∀ j, j < n → (X j).natAbs ≤ 256) :
    ∃ g, SolIs (n * n) n n (bxI K) (bxI (fun i => sumI n (fun j => K (n * i + j) * X j))) 0 n g ∧ ∀ i, i < n → Iv (g i).1 (g i).2 ∧ memW (g i) (X i : Rat) := by
  have hs : Shp (n * n) n n := ⟨hn0, hn, hn0, by
    by_cases h1 : n = 1
    · left; exact ⟨h1, by rw [h1]⟩
    · right; exact ⟨h1, rfl, rfl⟩⟩
  generalize hT : (fun i => sumI n (fun j => K (n * i + j) * X j)) = T
  have idx : ∀ y x, y < n → x < n → n * y + x < n * n ∧ (n * y + x) / n = y ∧ (n * y + x) % n = x := fun y x hy hx => by
    refine ⟨((shp_idx hs).2 y x hy hx).2, ?_, ?_⟩
    · rw [Nat.mul_add_div (by omega), Nat.div_eq_of_lt hx]; omega
    · rw [Nat.mul_add_mod, Nat.mod_eq_of_lt hx]
  have kb : ∀ y x, y < n → x < n → (K (n * y + x)).natAbs ≤ 103 := fun y x hy hx => entB_le (hK _ (idx y x hy hx).1)
  have tb : ∀ y, y < n → (T y).natAbs ≤ 105472 := fun y hy => by
    rw [← hT]
    have := sumI_abs (n := n) (f := fun j => K (n * y + j) * X j) (B := 26368) (fun j hj => by
      rw [Int.natAbs_mul]
      have := Nat.mul_le_mul (kb y j hy hj) (hX j hj)
      omega)
    have h4 : n * 26368 ≤ 4 * 26368 := Nat.mul_le_mul_right _ hn
    simp only
    omega
  have at1 : ∀ y x, y < n → x < n → sysW n n (bxI K) (bxI T) y x = (fl (K (n * y + x)), fl (K (n * y + x))) := fun y x hy hx => by
    rw [(sys_at hs _ _ hy).1 hx]
    exact cB_whole (by have := kb y x hy hx; omega)
  have at2 : ∀ y, y < n → sysW n n (bxI K) (bxI T) y n = (fl (T y), fl (T y)) := fun y hy => by
    rw [(sys_at hs _ _ hy (x := 0)).2]
    exact cB_whole (by have := tb y hy; omega)
  generalize hR : (fun y x => if x < n then (K (n * y + x) : Rat) else (T y : Rat)) = R
  have R1 : ∀ y x, x < n → R y x = (K (n * y + x) : Rat) := fun y x hx => by rw [← hR]; simp only; rw [if_pos hx]
  have R2 : ∀ y, R y n = (T y : Rat) := fun y => by rw [← hR]; simp only; rw [if_neg (Nat.lt_irrefl _)]
  have iv : ∀ y x, y < n → x ≤ n → ivW (sysW n n (bxI K) (bxI T) y x) := fun y x hy hx => by
    by_cases hxn : x < n
    · rw [at1 y x hy hxn]
      have i := iv_whole (n := K (n * y + x)) (by have := kb y x hy hxn; omega)
      rw [(same_whole (by have := kb y x hy hxn; omega)).1] at i
      exact i
    · obtain rfl : x = n := by omega
      rw [at2 y hy]
      have i := iv_whole (n := T y) (by have := tb y hy; omega)
      rw [(same_whole (by have := tb y hy; omega)).1] at i
      exact i
  have pts : ∀ y x, y < n → x ≤ n → valW (sysW n n (bxI K) (bxI T) y x).1 = R y x ∧ valW (sysW n n (bxI K) (bxI T) y x).2 = R y x := fun y x hy hx => by
    by_cases hxn : x < n
    · rw [at1 y x hy hxn, R1 y x hxn, val_fl (by have := kb y x hy hxn; omega)]; exact ⟨rfl, rfl⟩
    · obtain rfl : x = n := by omega
      rw [at2 y hy, R2 y, val_fl (by have := tb y hy; omega)]; exact ⟨rfl, rfl⟩
  have fa : ∀ y x, y < n → x ≤ n → FairR (R y x) := fun y x hy hx => by
    by_cases hxn : x < n
    · rw [R1 y x hxn]; exact fairR_int (by have := kb y x hy hxn; omega)
    · obtain rfl : x = n := by omega
      rw [R2 y]; exact fairR_int (by have := tb y hy; omega)
  have dg : ∀ i, i < n → 100 ≤ (K (n * i + i)).natAbs := fun i hi => by
    have := idx i i hi hi
    exact ((hK _ this.1).2 (by omega)).1
  have c100 : ∀ i, i < n → (100 : Rat) ≤ ab (R i i) := fun i hi => by
    rw [R1 i i hi, ab_int]
    exact natCast_le' (dg i hi)
  obtain ⟨g, hg, -⟩ := narrow_fact (z := fun _ => (0, 0)) hn (R := R) iv (fun y x hy hx => pts y x hy hx) fa (fun i hi hc => by have := c100 i hi; rw [hc, ab_zero] at this; grind) (fun i hi => by
    rw [sum_split n i hi]
    have h1 : sumR n (fun j => if j = i then 0 else ab (R i j)) ≤ sumR n (fun j => if j = i then 0 else 8) := sumR_le fun j hj => by
      by_cases hji : j = i
      · rw [if_pos hji, if_pos hji]; grind
      · rw [if_neg hji, if_neg hji, R1 i j hj, ab_int]
        have := idx i j hi hj
        exact natCast_le' ((hK _ this.1).1 (by omega))
    have h2 := sum_split n i hi (fun _ => (8 : Rat))
    rw [sum_eight] at h2
    have h3 := natCast_le' hn
    rw [show ((4 : Nat) : Rat) = 4 by rfl] at h3
    have h4 := c100 i hi
    grind)
  refine ⟨g, .inr ⟨hs, .inr ⟨fun y x hy hx => ?_, .inr ⟨hg, rfl, rfl⟩⟩⟩, fun i hi => ?_⟩
  · have i := iv y x hy hx
    unfold outW
    rw [reach_fair i.lt1 i.p1, reach_fair i.lt2 i.p2, fairT_of (by have := (pts y x hy hx).1; unfold valW at this; rw [this]; exact fa y x hy hx), fairT_of (by have := (pts y x hy hx).2; unfold valW at this; rw [this]; exact fa y x hy hx)]
    rfl
  · have hm := solveX_sol holding hn (R := R) (X := fun j => (X j : Rat)) hg (fun y x hy hx => ⟨iv y x hy hx, by rw [(pts y x hy hx).1]; grind, by rw [(pts y x hy hx).2]; grind⟩) (fun y hy => by
      rw [R2 y, ← hT]
      simp only
      rw [sumI_cast]
      apply sumR_congr
      intro j hj
      rw [R1 y j hj, Rat.intCast_mul]) i hi
    exact ⟨hm.1, hm.2⟩

theorem bal_held {l h : Nat} {v : Int} (_ : Iv l h) (hm : memW (l, h) (v : Rat)) : lessT (wholeN v) (plT l) = false ∧ lessT (plT h) (wholeN v) = false := by
  have e : valQ (wholeN v) = (v : Rat) := by
    unfold wholeN
    rw [val_means (means_self 0 v), pw_zero, Rat.mul_one]
  constructor
  · cases hc : lessT (wholeN v) (plT l) with
    | false => rfl
    | true =>
      have := (less_val _ _).1 hc
      have h2 := hm.1
      unfold valW at h2
      rw [e] at this
      simp only at h2
      grind
  · cases hc : lessT (plT h) (wholeN v) with
    | false => rfl
    | true =>
      have := (less_val _ _).1 hc
      have h2 := hm.2
      unfold valW at h2
      rw [e] at this
      simp only at h2
      grind

theorem i64_lo4 (n : Int) : bits .and .i64 n 15 = n % 16 := by
  show IntKind.i64.wrap ((BitVec.ofInt 64 n &&& BitVec.ofInt 64 15).toNat : Int) = _
  rw [BitVec.toNat_and, BitVec.toNat_ofInt, BitVec.toNat_ofInt, IntKind.wrap_i64, show ((15 : Int) % ((2 ^ 64 : Nat) : Int)).toNat = 15 by decide]
  have : (n % ((2 ^ 64 : Nat) : Int)).toNat &&& 15 = (n % ((2 ^ 64 : Nat) : Int)).toNat % 16 := Nat.and_two_pow_sub_one_eq_mod _ 4
  rw [this]
  omega
theorem i64_lo9 (n : Int) : bits .and .i64 n 511 = n % 512 := by
  show IntKind.i64.wrap ((BitVec.ofInt 64 n &&& BitVec.ofInt 64 511).toNat : Int) = _
  rw [BitVec.toNat_and, BitVec.toNat_ofInt, BitVec.toNat_ofInt, IntKind.wrap_i64, show ((511 : Int) % ((2 ^ 64 : Nat) : Int)).toNat = 511 by decide]
  have : (n % ((2 ^ 64 : Nat) : Int)).toNat &&& 511 = (n % ((2 ^ 64 : Nat) : Int)).toNat % 512 := Nat.and_two_pow_sub_one_eq_mod _ 9
  rw [this]
  omega
set_option maxRecDepth 100000 in
theorem smallK_any (n : Int) (w : World) : Calls Tryz.prog 19 #[.int .i64 n, .int .i64 4] w fun e w' => ∃ k : Int, e = .returned (.int .i64 k) ∧ k.natAbs ≤ 8 ∧ Below w.heap.size w w' := by
  have hb := i64_lo4 n
  go_enter Tryz.func19, Tryz.ntmps19
  go_wp2_with fail
  go_region
  go_wp2
  go_ret
  exact ⟨n % 16 - 8, rfl, by omega, (Below.refl _ _).drew⟩
set_option maxRecDepth 100000 in
theorem smallX_any (n : Int) (w : World) : Calls Tryz.prog 19 #[.int .i64 n, .int .i64 9] w fun e w' => ∃ k : Int, e = .returned (.int .i64 k) ∧ k.natAbs ≤ 256 ∧ Below w.heap.size w w' := by
  have hb := i64_lo9 n
  go_enter Tryz.func19, Tryz.ntmps19
  go_wp2_with fail
  go_region
  go_wp2
  go_ret
  exact ⟨n % 512 - 256, rfl, by omega, (Below.refl _ _).drew⟩
end Go.Proofs.YtonhpkigoplmaaaGreatDoor
