/-
  JdgF, JdgG, JdgC, JdgI.
-/
import Derived.Test.YtonhpkigoplmaaaGreatDoorS12
import Derived.Test.YtonhpkigoplmaaaGreatDoorS10
import Derived.Test.YtonhpkigoplmaaaGreatDoorS11
namespace Go.Proofs.YtonhpkigoplmaaaGreatDoor
open Go.RowKit Go.Extern Ieee

/-- det answers. -/
def DetC (args : Array Value) (n : Nat) (E : Nat → Nat → Bool × Nat × Int) (W : World) : Prop := Calls Tryz.prog 171 args W fun e w' => ∃ (q : Bool × Nat × Int) (o : Option Addr) (l c : Nat), e = .returned (.agg #[.bool q.1, .slice o l c, .int .i64 q.2.2]) ∧ l = (digits q.2.1).length ∧ NatV w' (.slice o l c) q.2.1 ∧ DetP n E q ∧ Below W.heap.size W w'

set_option maxHeartbeats 2000000 in
set_option maxRecDepth 100000 in
theorem detW_zero (ao : Option Addr) (ac : Nat) (bo : Option Addr) (nb bc : Nat) (col : Int) (E : Nat → Nat → Bool × Nat × Int) (w : World) : DetC #[.slice ao 0 ac, .slice bo nb bc, .int .i64 col] 0 E w := by
  unfold DetC
  have HO : Hid (∀ W, Calls Tryz.prog 114 #[.int .i64 1] W fun e w' => ∃ o l c, e = .returned (.slice o l c) ∧ l = (digits 1).length ∧ NatV w' (.slice o l c) 1 ∧ Below W.heap.size W w') := one_g
  have HD : Hid (DetP 0 E (false, 1, 0)) := ⟨by rw [val_two, pw_zero]; rfl, ⟨by simp only; omega, by simp only; omega, by simp only; decide⟩⟩
  go_enter Tryz.func171, Tryz.ntmps171
  go_wp2_with fail
  have k6 := blk_new w (Obj.cells #[.bool false, .slice none 0 0, .int .i64 0] 92)
  have hb0 : Below w.heap.size w (w.alloc (Obj.cells #[.bool false, .slice none 0 0, .int .i64 0] 92)) := (Below.refl _ _).alloc (Nat.le_refl _) _
  generalize (w.alloc (Obj.cells #[.bool false, .slice none 0 0, .int .i64 0] 92)) = W1 at *
  refine Calls.mono (HO.out _) ?_
  rintro e w1 ⟨o, l, c, rfl, hl, hn, hb⟩
  have K6 := hid (blk_below k6 hb)
  have HB := hid (hb0.trans (hb.mono hb0.size))
  have HN := hid hn
  have HL := hid hl
  obtain ⟨z0, z1, z2, f0, f1, f2⟩ := blk3 K6.out
  clear hn hb hb0 k6 hl HO
  go_wp2
  obtain ⟨r0, r1, r2, -, -, -⟩ := blk3 (blk_store3 (a := .bool false) (b := .slice o l c) (c := .int .i64 0) K6.out)
  refine bodyPost_ret (v := .agg #[.bool false, .slice o l c, .int .i64 0]) (by simp [results, Tryz.results171, go_sem, r0, r1, r2]) rfl ?_
  exact ⟨(false, 1, 0), o, l, c, rfl, HL.out, HN.out.keeps (fun g cur hh => by
    have : g ≠ w.heap.size := fun h => by
      subst h
      rw [K6.out] at hh
      cases hh
    exact blk_store3_ne hh this), HD.out, ((HB.out.setCell (Nat.le_refl _) _).setCell (Nat.le_refl _) _).setCell (Nat.le_refl _) _⟩

/-- Where det stands behind j terms. -/
structure DtS (w wr : World) (n : Nat) (E : Nat → Nat → Bool × Nat × Int) (j : Nat) (t : Bool × Nat × Int) (o : Option Addr) (l c : Nat) : Prop where
  k6 : wr.heap[w.heap.size]? = some (.cells #[.bool false, .slice none 0 0, .int .i64 0] 92 (0, 0))
  kt : NBk wr (w.heap.size + 1) t o l c
  hb : Below w.heap.size w wr
  dt : DetT n E j t
theorem DtS.below {w wr W : World} {n : Nat} {E : Nat → Nat → Bool × Nat × Int} {j : Nat} {t : Bool × Nat × Int} {o : Option Addr} {l c : Nat} (s : DtS w wr n E j t o l c) (hb : Below wr.heap.size wr W) : DtS w W n E j t o l c := ⟨blk_below s.k6 hb, s.kt.below hb, s.hb.trans (hb.mono s.hb.size), s.dt⟩

/-- So many of the first k columns are not j. -/
def cntC (j k : Nat) : Nat := if k ≤ j then k else k - 1

--@def NA(X) .agg #[.bool X.1, .slice o l c, .int .i64 X.2.2]
set_option maxHeartbeats 16000000 in
set_option maxRecDepth 100000 in
theorem detW_step (n : Nat) (hn : n + 1 ≤ 4) (IH : ∀ (W : World) (v : Value) (Q : Nat → Nat → Bool × Nat × Int), NMat W v n Q → (∀ i k, i < n → k < n → Bq 953 953 (Q i k)) → DetC #[v, .slice none 0 0, .int .i64 (-1)] n Q W)
    (ao bo : Option Addr) (ac nb bc : Nat) (col : Int) (Q : Nat → Nat → Bool × Nat × Int) (B : Nat → Bool × Nat × Int) (w : World) (hm : NMat w (.slice ao (n + 1) ac) (n + 1) Q) (hcol : col < 0 ∨ (nb = n + 1 ∧ NRow w (.slice bo nb bc) (n + 1) B)) (hE : ∀ i k, i < n + 1 → k < n + 1 → Bq 953 953 (entQ Q B col i k)) :
    DetC #[.slice ao (n + 1) ac, .slice bo nb bc, .int .i64 col] (n + 1) (entQ Q B col) w := by
  unfold DetC
  obtain ⟨i0, hI0, hy0, hy1, hy2⟩ := info_parts infoNum
  obtain ⟨i1, hI1, hz0, hz1, hz2⟩ := info_parts infoNumS
  have HM := hid hm
  have HC := hid hcol
  have HE := hid hE
  have HI := hid IH
  have ENT : Hid (∀ i k, entQ Q B col i k = if (k : Int) = col then B i else Q i k) := fun _ _ => rfl
  generalize entQ Q B col = E at *
  clear hm hcol hE IH
  have gz : ((n : Int) + 1 == 0) = false := by rw [beq_eq_false_iff_ne]; omega
  go_enter Tryz.func171, Tryz.ntmps171
  go_wp2_with fail
  have ST : Hid (DtS w ((w.alloc (Obj.cells #[.bool false, .slice none 0 0, .int .i64 0] 92)).alloc (Obj.cells #[.bool false, .slice none 0 0, .int .i64 0] 92)) n E 0 (false, 0, 0) none 0 0) := by
    have B1 := blk_new (w.alloc (Obj.cells #[.bool false, .slice none 0 0, .int .i64 0] 92)) (Obj.cells #[.bool false, .slice none 0 0, .int .i64 0] 92)
    simp only [World.size_alloc] at B1
    exact ⟨blk_old (blk_new w _) _, ⟨B1, by simp [digits_zero], NatV.zero _⟩, ((Below.refl _ _).alloc (Nat.le_refl _) _).alloc (by simp) _, DetT.zero _ _⟩
  generalize ((w.alloc (Obj.cells #[.bool false, .slice none 0 0, .int .i64 0] 92)).alloc (Obj.cells #[.bool false, .slice none 0 0, .int .i64 0] 92)) = W1 at *
  go_loopw [9] (fun x wr => ∃ (j : Nat) (t : Bool × Nat × Int) (o : Option Addr) (l c : Nat), j ≤ n + 1 ∧ x = .int .i64 (j : Int) ∧ DtS w wr n E j t o l c) (fun x _ => n + 1 - (intOf x).toNat)
  case atStart => exact ⟨0, _, _, _, _, Nat.zero_le _, rfl, ST.out⟩
  case round =>
    obtain ⟨j, t, to_, tl, tc, hj1, rfl, hst⟩ := hrel
    have ST := hid hst
    clear hst
    by_cases hj : j < n + 1
    · have gj : decide ((j : Int) < (n : Int) + 1) = true := decide_eq_true (by omega)
      have MW := hid (HM.out.below ST.out.hb)
      obtain ⟨ao', ac', e1, hor⟩ := id MW.out
      cases e1
      obtain ⟨gm, rfl, hgm, hrow⟩ := hor.resolve_left (by omega)
      obtain ⟨ro, rc, r1, r2⟩ := hrow 0 (by omega)
      obtain ⟨g0, xo, xl, xc, rfl, hg0, a1, a2, a3, a4, a5⟩ := r2.at hj
      have LX := hid a4
      have NX := hid a5
      clear hor hrow r2 a4 a5
      go_upto_if 38 with fail
      have hsz := ST.out.hb.size
      have ENX := hid (ENT.out 0 j)
      go_cut [] (fun wc => ∃ (o : Option Addr) (l c : Nat), NBk wc wr.heap.size (E 0 j) o l c ∧ Below wr.heap.size wr wc)
      case first =>
        by_cases hc : (j : Int) = col
        · have g1 : ((j : Int) == col) = true := by rw [beq_iff_eq]; exact hc
          obtain ⟨hnb, hrb⟩ := HC.out.resolve_left (by omega)
          subst hnb
          obtain ⟨gb, yo, yl, yc, rfl, hgb, b1, b2, b3, b4, b5⟩ := (hrb.below ST.out.hb).at (j := 0) (by omega)
          simp only [Nat.zero_mul, Nat.zero_add] at b1 b2 b3
          have EE : Hid (E 0 j = B 0) := by show _ = _; rw [ENX.out, if_pos hc]
          have LY := hid b4
          have NY := hid b5
          clear hrb b4 b5 HC ENT HE HI HM MW ENX
          go_wp2_with fail
          go_meet
          rw [EE.out]
          exact ⟨yo, yl, yc, ⟨blk_new _ _, LY.out, NY.out.below ((Below.refl _ _).alloc (Nat.le_refl _) _) (Nat.le_refl _)⟩, (Below.refl _ _).alloc (Nat.le_refl _) _⟩
        · have g1 : ((j : Int) == col) = false := by rw [beq_eq_false_iff_ne]; exact hc
          have EE : Hid (E 0 j = Q 0 j) := by show _ = _; rw [ENX.out, if_neg hc]
          clear HC ENT HE HI HM MW ENX
          go_wp2_with fail
          go_meet
          rw [EE.out]
          exact ⟨xo, xl, xc, ⟨blk_new _ _, LX.out, NX.out.below ((Below.refl _ _).alloc (Nat.le_refl _) _) (Nat.le_refl _)⟩, (Below.refl _ _).alloc (Nat.le_refl _) _⟩
      case rest =>
        obtain ⟨o1, l1, c1, hx, hbc⟩ := hcut
        have KX := hid hx
        have ST2 := hid (ST.out.below hbc)
        have MW2 := hid (MW.out.below hbc)
        have LTX : Hid (wr.heap.size < wc.heap.size) := lt_of_row hx.blk
        clear hx hbc ST MW LX NX a1 a2 a3 r1 ENX hsz hg0 hgm
        generalize wr.heap.size = gx at *
        obtain ⟨w2, rfl⟩ : ∃ w2, w2 = wc := ⟨_, rfl⟩
        go_wp2_with fail
        go_loopw [11, 12] (fun v x w3 => ∃ (i : Nat) (hv : Nat → Value), 1 ≤ i ∧ i ≤ n + 1 ∧ x = .int .i64 (i : Int) ∧ NMb w2.heap.size w3 v (i - 1) n hv (minQ E j) ∧ Below w2.heap.size w2 w3) (fun _ x _ => n + 1 - (intOf x).toNat)
        case atStart => exact ⟨1, fun _ => .slice none 0 0, Nat.le_refl _, by omega, rfl, NMb.nil _ _ _ _ _, Below.refl _ _⟩
        case round =>
          obtain ⟨i, hv, hi0, hi1, rfl, hmb, hb3⟩ := hrel
          obtain ⟨w3, rfl⟩ : ∃ w3, w3 = wr := ⟨_, rfl⟩
          have MB := hid hmb
          have B3 := hid hb3
          clear hmb hb3
          by_cases hi : i < n + 1
          · have gi : decide ((i : Int) < (n : Int) + 1) = true := decide_eq_true (by omega)
            have MW3 := hid (MW2.out.below B3.out)
            obtain ⟨ao', ac', e1, hor⟩ := id MW3.out
            cases e1
            obtain ⟨gm', e2, hgm, hrow⟩ := hor.resolve_left (by omega)
            cases e2
            obtain ⟨ro, rc, r1, r2⟩ := hrow i hi
            have RI := hid r2
            have RC := hid r1
            have GM := hid hgm
            clear hor hrow r1 r2 hgm
            go_wp2_with fail
            go_loopw [13, 14] (fun v x w4 => ∃ (k : Nat) (u : Nat → Value), k ≤ n + 1 ∧ x = .int .i64 (k : Int) ∧ NBl w3.heap.size w4 v (cntC j k) (minQ E j (i - 1)) u ∧ Below w3.heap.size w3 w4) (fun _ x _ => n + 1 - (intOf x).toNat)
            case atStart => exact ⟨0, fun _ => .slice none 0 0, Nat.zero_le _, rfl, by
              have : cntC j 0 = 0 := by unfold cntC; simp
              rw [this]; exact NBl.nil _ _ _ _, Below.refl _ _⟩
            case round =>
              obtain ⟨k, u, hk1, rfl, hnb, hb4⟩ := hrel
              obtain ⟨w4, rfl⟩ : ∃ w4, w4 = wr := ⟨_, rfl⟩
              have NL := hid hnb
              have B4 := hid hb4
              clear hnb hb4
              by_cases hk : k < n + 1
              · obtain ⟨g0, xo, xl, xc, rfl, hg0, a1, a2, a3, a4, a5⟩ := (RI.out.below B4.out).at hk
                have r1 : w4.cell? ⟨gm, i, none⟩ = some (.slice (some ⟨g0, 0, none⟩) (n + 1) rc) := by rw [B4.out.cell (by exact GM.out)]; exact RC.out
                have LX := hid a4
                have NX := hid a5
                have ENX := hid (ENT.out i k)
                have hgm : gm < w4.heap.size := Nat.lt_of_lt_of_le GM.out B4.out.size
                clear a4 a5
                go_upto_if 61 with fail
                go_cut [] (fun wc => ∃ (o : Option Addr) (l c : Nat), NBk wc w4.heap.size (E i k) o l c ∧ Below w4.heap.size w4 wc)
                case first =>
                  by_cases hc : (k : Int) = col
                  · have g1 : ((k : Int) == col) = true := by rw [beq_iff_eq]; exact hc
                    obtain ⟨hnb, hrb⟩ := HC.out.resolve_left (by omega)
                    subst hnb
                    have hw4 : Below w.heap.size w w4 := (ST2.out.hb.trans (B3.out.mono ST2.out.hb.size)).trans (B4.out.mono (ST2.out.hb.trans (B3.out.mono ST2.out.hb.size)).size)
                    obtain ⟨gb, yo, yl, yc, rfl, hgb, b1, b2, b3, b4, b5⟩ := (hrb.below hw4).at (j := i) hi
                    have EE : Hid (E i k = B i) := by show _ = _; rw [ENX.out, if_pos hc]
                    have LY := hid b4
                    have NY := hid b5
                    clear hrb b4 b5 HC ENT HE HI HM ENX hw4
                    go_wp2_with fail
                    go_meet
                    rw [EE.out]
                    exact ⟨yo, yl, yc, ⟨blk_new _ _, LY.out, NY.out.below ((Below.refl _ _).alloc (Nat.le_refl _) _) (Nat.le_refl _)⟩, (Below.refl _ _).alloc (Nat.le_refl _) _⟩
                  · have g1 : ((k : Int) == col) = false := by rw [beq_eq_false_iff_ne]; exact hc
                    have EE : Hid (E i k = Q i k) := by show _ = _; rw [ENX.out, if_neg hc]
                    clear HC ENT HE HI HM ENX
                    go_wp2_with fail
                    go_meet
                    rw [EE.out]
                    exact ⟨xo, xl, xc, ⟨blk_new _ _, LX.out, NX.out.below ((Below.refl _ _).alloc (Nat.le_refl _) _) (Nat.le_refl _)⟩, (Below.refl _ _).alloc (Nat.le_refl _) _⟩
                case rest =>
                  obtain ⟨o1', l1', c1', hy, hbc⟩ := hcut
                  have KY := hid hy
                  have NL2 := hid (NL.out.below hbc)
                  have B5 := hid (B4.out.trans (hbc.mono B4.out.size))
                  clear hy hbc NL B4 LX NX a1 a2 a3 r1 ENX hg0 hgm
                  obtain ⟨x0, x1, x2, -, -, -⟩ := blk3 KY.out.blk
                  by_cases hkj : k = j
                  · subst hkj
                    have e : cntC k (k + 1) = cntC k k := by unfold cntC; simp
                    have NL3 := NL2.out
                    rw [← e] at NL3
                    have NL3 := hid NL3
                    clear NL2 KY x0 x1 x2 e
                    go_wp2
                    go_roundw
                    case rel => exact ⟨k + 1, u, by omega, by go_num, NL3.out, B5.out⟩
                    case measure => simp [intOf]; omega
                  · have g1 : ((k : Int) != (j : Int)) = true := by rw [bne_iff_ne]; omega
                    have e : cntC j (k + 1) = cntC j k + 1 := by unfold cntC; split <;> split <;> omega
                    have eq : Hid (minQ E j (i - 1) (cntC j k) = E i k) := by
                      show _ = _
                      unfold minQ cntC
                      rw [show i - 1 + 1 = i by omega]
                      congr 1
                      split <;> split <;> omega
                    have hcl : cntC j k ≤ 4 := by unfold cntC; split <;> omega
                    have hb5 := B5.out.size
                    have LY := hid KY.out.len
                    have NY := hid KY.out.nat
                    have eq' := eq.out
                    generalize hE0 : E i k = ek at *
                    clear KY HC ENT HE HI HM hE0
                    go_wp2_with (first
                      | (at_builtin; refine wpList_append_own _ rfl _ _ 103 rfl w3.heap.size 92 i0 (.agg #[.bool false, .slice none 0 0, .int .i64 0]) 3 40 Tryz.underlying103 hI0 hy0 hy1 hy2 rfl (by decide) _ _ _ rfl (NL2.out.own.alloc _) ⟨wc.heap.size, 0, none⟩ 1 1 [.bool ek.1, .slice o1' l1' c1', .int .i64 ek.2.2] rfl rfl three_cells ?c2 ?c3 ?c4 ?c5 ?_)
                      | go_in)
                    case c2 => intro u hu; simp at hu; rcases hu with rfl | rfl | rfl <;> rfl
                    case c3 => unfold maxLen; omega
                    case c4 => omega
                    case c5 => simp; omega
                    · intro v' w5 hown' hgrow _
                      have PB := hid (own_push NL2.out.own B5.out (Nat.le_refl _) hgrow)
                      have PN := NL2.out.push (u := u) (o := o1') (l := l1') (c := c1') (by rw [eq']; exact LY.out) (by rw [eq']; exact NY.out) (by rw [eq']; exact hown') hgrow ((Below.refl _ _).alloc (Nat.le_refl _) _)
                      rw [← e] at PN
                      have PN := hid PN
                      clear hown' hgrow NL2 B5 eq' LY NY x0 x1 x2 e
                      go_wp2
                      go_roundw
                      case rel => first | exact ⟨k + 1, _, by omega, by go_num, PN.out, PB.out⟩ | ((repeat apply Exists.intro); exact ⟨⟨k + 1, _, by omega, by go_num, PN.out, PB.out⟩, rfl⟩)
                      case measure => simp [intOf]; omega
              · have e : cntC j k = n := by unfold cntC; split <;> omega
                have NR := NL.out.row
                rw [e] at NR
                obtain ⟨po, pc, rfl, -⟩ := id NR
                have NR := hid NR
                have MB2 := hid (MB.out.below B4.out)
                have B5 := hid (B3.out.trans (B4.out.mono B3.out.size))
                clear NL MB B3 e RI RC GM MW3
                have hb5 := B5.out.size
                go_wp2_with (first
                  | (at_builtin; refine wpList_append_own _ rfl _ _ 210 rfl w2.heap.size 103 i1 (.slice none 0 0) 1 24 Tryz.underlying210 hI1 hz0 hz1 hz2 rfl (by decide) _ _ _ rfl (MB2.out.own.alloc _) ⟨w4.heap.size, 0, none⟩ 1 1 [.slice po n pc] rfl rfl one_cell ?c2 ?c3 ?c4 ?c5 ?_)
                  | go_in)
                case c2 => intro u hu; simp at hu; rcases hu with rfl; rfl
                case c3 => unfold maxLen; omega
                case c4 => omega
                case c5 => simp; omega
                · intro v' w5 hown' hgrow _
                  have PB := hid (own_push MB2.out.own B5.out (Nat.le_refl _) hgrow)
                  have ha : Below w4.heap.size w4 (w4.alloc (Obj.cells #[.slice po n pc] 103)) := (Below.refl _ _).alloc (Nat.le_refl _) _
                  have PN := (MB2.out.below ha).push (NR.out.below ha) (by rw [show i - 1 + 1 = i by omega]; exact hown') hgrow
                  rw [show i - 1 + 1 = i + 1 - 1 by omega] at PN
                  have PN := hid PN
                  clear hown' hgrow MB2 B5 NR ha B4
                  go_wp2
                  go_roundw
                  case rel => first | exact ⟨i + 1, _, by omega, by omega, by go_num, PN.out, PB.out⟩ | ((repeat apply Exists.intro); exact ⟨⟨i + 1, _, by omega, by omega, by go_num, PN.out, PB.out⟩, rfl⟩)
                  case measure => simp [intOf]; omega
          · obtain rfl : i = n + 1 := by omega
            have MT := hid MB.out.mat
            have IHC := hid (HI.out w3 _ (minQ E j) MT.out (fun a k ha hk => HE.out (a + 1) _ (by omega) (by split <;> omega)))
            have KX3 := hid (KX.out.below B3.out)
            have ST3 := hid (ST2.out.below B3.out)
            have BX := hid (HE.out 0 j (by omega) hj)
            clear MB MT HI HE HM HC ENT KX ST2 B3 MW2 LTX
            unfold DetC at IHC
            go_wp2_with fail
            refine Calls.mono IHC.out ?_
            rintro e w4 ⟨d, do_, dl, dc, rfl, hdl, hdn, hdp, hb4⟩
            have KX4 := hid (KX3.out.below hb4)
            have ST4 := hid (ST3.out.below hb4)
            have ND := hid hdn
            have LD := hid hdl
            have DP := hid hdp
            clear hb4 hdn hdl hdp KX3 ST3 IHC
            obtain ⟨x0, x1, x2, -, -, -⟩ := blk3 KX4.out.blk
            have hlx := lt_of_row KX4.out.blk
            have hmm := MM_le (n := n) (by omega)
            have SX := hid (BX.out.sm (by omega) (by omega))
            have SD := hid (DP.out.bq.sm (by omega) (by omega))
            go_wp2_with fail
            have ha : Below w4.heap.size w4 (w4.alloc (Obj.cells #[.bool d.1, .slice do_ dl dc, .int .i64 d.2.2] 92)) := (Below.refl _ _).alloc (Nat.le_refl _) _
            have HP := hid (prod_g SX.out SD.out (w4.alloc (Obj.cells #[.bool d.1, .slice do_ dl dc, .int .i64 d.2.2] 92)) o1 do_ l1 c1 dl dc KX4.out.len (KX4.out.nat.below ha (Nat.le_refl _)) LD.out (ND.out.below ha (Nat.le_refl _)))
            refine Calls.mono HP.out ?_
            rintro e w5 ⟨po, pl, pc, rfl, hpl, hpn, hb5⟩
            have ST5 := hid ((ST4.out.below ha).below hb5)
            have NP := hid hpn
            have LP := hid hpl
            have BP := hid (BX.out.prod DP.out.bq)
            clear hb5 hpn hpl HP ha KX4 ST4 ND LD x0 x1 x2 hlx SX SD
            generalize hpr : prodN (E 0 j) d = pr at *
            have gt : ((j : Int).tmod 2 == 1) = decide (j % 2 = 1) := by
              rw [Int.tmod_eq_emod_of_nonneg (by omega)]
              rw [Bool.eq_iff_iff, beq_iff_eq, decide_eq_true_eq]
              omega
            have hs5 := ST5.out.hb.size
            go_upto_if 84 with fail
            go_cut [] (fun wc => ∃ (o : Option Addr) (l c : Nat), NBk wc w5.heap.size (if j % 2 = 1 then negT pr else pr) o l c ∧ Below w5.heap.size w5 wc)
            case first =>
              by_cases hc : j % 2 = 1
              · rw [decide_eq_true hc] at gt
                have K0 := blk_new w5 (Obj.cells #[.bool pr.1, .slice po pl pc, .int .i64 pr.2.2] 92)
                have ha : Below w5.heap.size w5 (w5.alloc (Obj.cells #[.bool pr.1, .slice po pl pc, .int .i64 pr.2.2] 92)) := (Below.refl _ _).alloc (Nat.le_refl _) _
                have NP2 := hid (NP.out.below ha (Nat.le_refl _))
                go_wp2_with fail
                generalize (w5.alloc (Obj.cells #[.bool pr.1, .slice po pl pc, .int .i64 pr.2.2] 92)) = W6 at *
                refine Calls.mono (negated_g pr W6 po pl pc LP.out NP2.out) ?_
                rintro e w6 ⟨no, nl, nc, rfl, hnl, hnn, hb6⟩
                have K1 := hid (blk_below K0 hb6)
                have B6 := hid (ha.trans (hb6.mono ha.size))
                have NN := hid hnn
                have LN := hid hnl
                clear hb6 hnn hnl K0 ha NP2
                obtain ⟨x0, x1, x2, f0, f1, f2⟩ := blk3 K1.out
                have hlx := lt_of_row K1.out
                go_wp2_with fail
                go_meet
                rw [if_pos hc]
                exact ⟨no, nl, nc, ⟨blk_store3 K1.out, LN.out, natV_store NN.out K1.out⟩, ((B6.out.setCell (Nat.le_refl _) _).setCell (Nat.le_refl _) _).setCell (Nat.le_refl _) _⟩
              · rw [decide_eq_false hc] at gt
                go_wp2_with fail
                go_meet
                rw [if_neg hc]
                exact ⟨po, pl, pc, ⟨blk_new _ _, LP.out, NP.out.below ((Below.refl _ _).alloc (Nat.le_refl _) _) (Nat.le_refl _)⟩, (Below.refl _ _).alloc (Nat.le_refl _) _⟩
            case rest =>
              obtain ⟨qo, ql, qc, hq, hbc⟩ := hcut
              have KQ := hid hq
              have ST6 := hid (ST5.out.below hbc)
              have DS := hid (ST6.out.dt.step DP.out BX.out (p := if j % 2 = 1 then negT pr else pr) (by rw [hpr]))
              have SP : Hid (Sm (if j % 2 = 1 then negT pr else pr)) := by
                show Sm _
                have := BP.out.sm (by omega) (by omega)
                split
                · exact ⟨this.b, this.l, this.u⟩
                · exact this
              have STt := hid (ST6.out.dt.bq.sm (by omega) (by omega))
              clear hq hbc ST5 NP LP BP DP hpr gt
              generalize (if j % 2 = 1 then negT pr else pr) = pp at *
              have HSM := hid (sum_g STt.out SP.out wc to_ qo tl tc ql qc ST6.out.kt.len ST6.out.kt.nat KQ.out.len KQ.out.nat)
              obtain ⟨x0, x1, x2, -, -, -⟩ := blk3 KQ.out.blk
              obtain ⟨t0, t1, t2, -, -, -⟩ := blk3 ST6.out.kt.blk
              have hlx := lt_of_row KQ.out.blk
              have hlt := lt_of_row ST6.out.kt.blk
              clear STt SP
              go_wp2_with fail
              refine Calls.mono HSM.out ?_
              rintro e w7 ⟨so, sl, sc, rfl, hsl, hsn, hb7⟩
              have ST7 := hid (ST6.out.below hb7)
              have NS := hid hsn
              have LS := hid hsl
              clear hb7 hsn hsl HSM KQ ST6 x0 x1 x2 t0 t1 t2 hlx hlt
              obtain ⟨t0, t1, t2, f0, f1, f2⟩ := blk3 ST7.out.kt.blk
              have hlt := lt_of_row ST7.out.kt.blk
              generalize sumT t pp = s2 at *
              have STN : Hid (DtS w (((w7.setCell ⟨w.heap.size + 1, 0, none⟩ (.bool s2.1)).setCell ⟨w.heap.size + 1, 1, none⟩ (.slice so sl sc)).setCell ⟨w.heap.size + 1, 2, none⟩ (.int .i64 s2.2.2)) n E (j + 1) s2 so sl sc) :=
                ⟨blk_store3_ne ST7.out.k6 (by omega), ⟨blk_store3 ST7.out.kt.blk, LS.out, natV_store NS.out ST7.out.kt.blk⟩, ((ST7.out.hb.setCell (Nat.le_succ _) _).setCell (Nat.le_succ _) _).setCell (Nat.le_succ _) _, DS.out⟩
              clear ST7 NS LS DS
              go_wp2
              go_roundw
              case rel => first | exact ⟨j + 1, _, _, _, _, by omega, by go_num, STN.out⟩ | ((repeat apply Exists.intro); exact ⟨⟨j + 1, _, _, _, _, by omega, by go_num, STN.out⟩, rfl⟩)
              case measure => simp [intOf]; omega
    · obtain rfl : j = n + 1 := by omega
      have DP := hid ST.out.dt.done
      obtain ⟨t0, t1, t2, -, -, -⟩ := blk3 ST.out.kt.blk
      obtain ⟨z0, z1, z2, f0, f1, f2⟩ := blk3 ST.out.k6
      have hlt := lt_of_row ST.out.kt.blk
      clear HM HC HE HI ENT
      go_wp2
      obtain ⟨r0, r1, r2, -, -, -⟩ := blk3 (blk_store3 (a := .bool t.1) (b := .slice to_ tl tc) (c := .int .i64 t.2.2) ST.out.k6)
      refine bodyPost_ret (v := .agg #[.bool t.1, .slice to_ tl tc, .int .i64 t.2.2]) (by simp [results, Tryz.results171, go_sem, r0, r1, r2]) rfl ?_
      exact ⟨t, to_, tl, tc, rfl, ST.out.kt.len, natV_store ST.out.kt.nat ST.out.k6, DP.out, ((ST.out.hb.setCell (Nat.le_refl _) _).setCell (Nat.le_refl _) _).setCell (Nat.le_refl _) _⟩

theorem ent_none (Q : Nat → Nat → Bool × Nat × Int) (B : Nat → Bool × Nat × Int) {col : Int} (h : col < 0) : entQ Q B col = Q := by
  funext i k
  unfold entQ
  rw [if_neg (by omega)]
theorem detW_any : ∀ (n : Nat), n ≤ 4 → ∀ (v : Value) (bo : Option Addr) (nb bc : Nat) (col : Int) (Q : Nat → Nat → Bool × Nat × Int) (B : Nat → Bool × Nat × Int) (w : World), NMat w v n Q → (col < 0 ∨ (nb = n ∧ NRow w (.slice bo nb bc) n B)) → (∀ i k, i < n → k < n → Bq 953 953 (entQ Q B col i k)) → DetC #[v, .slice bo nb bc, .int .i64 col] n (entQ Q B col) w
  | 0, _, v, bo, nb, bc, col, Q, B, w, hm, _, _ => by
    obtain ⟨ao, ac, rfl, -⟩ := hm
    exact detW_zero ao ac bo nb bc col _ w
  | n + 1, hn, v, bo, nb, bc, col, Q, B, w, hm, hc, hE => by
    obtain ⟨ao, ac, rfl, -⟩ := id hm
    refine detW_step n hn (fun W v Q' hm' hq => ?_) ao bo ac nb bc col Q B w hm hc hE
    have h := detW_any n (by omega) v none 0 0 (-1) Q' (fun _ => (false, 0, 0)) W hm' (.inl (by omega)) (by rw [ent_none _ _ (by omega)]; exact hq)
    rw [ent_none _ _ (by omega)] at h
    exact h
end Go.Proofs.YtonhpkigoplmaaaGreatDoor
namespace Go.Proofs.YtonhpkigoplmaaaGreatDoor
open Go.RowKit Go.Extern Ieee

/-- A number's half. -/
def halfT (x : Bool × Nat × Int) : Bool × Nat × Int := (x.1, x.2.1, x.2.2 - 1)
theorem val_half (x : Bool × Nat × Int) : valQ (halfT x) * 2 = valQ x := by
  unfold halfT valQ
  simp only
  have h := pw_add (x.2.2 - 1) 1
  rw [show x.2.2 - 1 + 1 = x.2.2 by omega, pw_one] at h
  rw [h]; grind

/-- What chosen may answer. -/
structure Cho (lo hi : Nat) (q : Bool × Nat × Int) : Prop where
  bq : Bq 953 953 q
  l : valW lo ≤ valQ q
  u : valQ q ≤ valW hi
theorem cho_lo {lo hi : Nat} (i : Iv lo hi) : Cho lo hi (plT lo) := ⟨(pl_of i.p1).bq.mono (by omega) (by omega), by unfold valW; grind, i.vle⟩
theorem cho_hi {lo hi : Nat} (i : Iv lo hi) : Cho lo hi (plT hi) := ⟨(pl_of i.p2).bq.mono (by omega) (by omega), i.vle, by unfold valW; grind⟩
theorem cho_mid {lo hi : Nat} (i : Iv lo hi) : Cho lo hi (halfT (sumT (plT lo) (plT hi))) := by
  have h := (pl_of i.p1).bq.sum (pl_of i.p2).bq
  have v := val_half (sumT (plT lo) (plT hi))
  rw [val_sum] at v
  have le := i.vle
  unfold valW at le
  refine ⟨⟨?_, ?_, ?_⟩, ?_, ?_⟩
  · have := h.l; unfold halfT; simp only; omega
  · have := h.u; unfold halfT; simp only; omega
  · have := h.t; unfold halfT; simp only; omega
  · unfold valW; grind
  · unfold valW; grind

set_option maxHeartbeats 4000000 in
set_option maxRecDepth 100000 in
theorem chosen_any (lo hi : Nat) (i : Iv lo hi) (pick : Int) (w : World) :
    Calls Tryz.prog 170 #[.agg #[.int .u64 (lo : Int), .int .u64 (hi : Int)], .int .i64 pick] w fun e w' => ∃ (q : Bool × Nat × Int) (o : Option Addr) (l c : Nat), e = .returned (.agg #[.bool q.1, .slice o l c, .int .i64 q.2.2]) ∧ l = (digits q.2.1).length ∧ NatV w' (.slice o l c) q.2.1 ∧ Cho lo hi q ∧ Below w.heap.size w w' := by
  have HM : Hid (MadeG #[.agg #[.int .u64 (lo : Int), .int .u64 (hi : Int)]] (plT lo) (plT hi)) := by
    have := made_gives lo hi i.lt1 i.lt2
    rw [make_iv i] at this
    exact this
  have C1 := hid (cho_lo i)
  have C2 := hid (cho_hi i)
  have C3 := hid (cho_mid i)
  have P1 := hid (pl_of i.p1)
  have P2 := hid (pl_of i.p2)
  clear i
  generalize plT lo = x at *
  generalize plT hi = y at *
  go_enter Tryz.func170, Tryz.ntmps170
  go_wp2_with fail
  have k4 := blk_new (w.alloc (Obj.cells #[.int .u64 (lo : Int), .int .u64 (hi : Int)] 28)) (Obj.cells #[.bool false, .slice none 0 0, .int .i64 0] 92)
  simp only [World.size_alloc] at k4
  have hW : Below w.heap.size w ((w.alloc (Obj.cells #[.int .u64 (lo : Int), .int .u64 (hi : Int)] 28)).alloc (Obj.cells #[.bool false, .slice none 0 0, .int .i64 0] 92)) := ((Below.refl _ _).alloc (Nat.le_refl _) _).alloc (by simp) _
  generalize ((w.alloc (Obj.cells #[.int .u64 (lo : Int), .int .u64 (hi : Int)] 28)).alloc (Obj.cells #[.bool false, .slice none 0 0, .int .i64 0] 92)) = W2 at *
  refine Calls.mono (HM.out _) ?_
  rintro e w1 ⟨ao, la, ca, bo, lb, cb, rfl, hla, hlb, hna, hnb, hbk⟩
  have K4 := hid (blk_below k4 hbk)
  have HB := hid (hW.trans (hbk.mono hW.size))
  have LA := hid hla
  have LB := hid hlb
  have NA := hid hna
  have NB := hid hnb
  clear hla hlb hna hnb hbk k4 hW HM
  obtain ⟨z0, z1, z2, f0, f1, f2⟩ := blk3 K4.out
  have hlt := lt_of_row K4.out
  have NIV : Hid (∀ (u : Bool × Nat × Int) (o : Option Addr) (l c : Nat) (W : World) (X : Obj), NatV W (.slice o l c) u.2.1 → W.heap[w.heap.size + 1]? = some (.cells #[.bool false, .slice none 0 0, .int .i64 0] 92 (0, 0)) → Below w.heap.size w W → NatV ((((W.setCell ⟨w.heap.size + 1, 0, none⟩ (.bool u.1)).setCell ⟨w.heap.size + 1, 1, none⟩ (.slice o l c)).setCell ⟨w.heap.size + 1, 2, none⟩ (.int .i64 u.2.2)).alloc X) (.slice o l c) u.2.1 ∧ Below w.heap.size w ((((W.setCell ⟨w.heap.size + 1, 0, none⟩ (.bool u.1)).setCell ⟨w.heap.size + 1, 1, none⟩ (.slice o l c)).setCell ⟨w.heap.size + 1, 2, none⟩ (.int .i64 u.2.2)).alloc X)) := by
    intro u o l c W X hN hK hB
    have h3 : Below w.heap.size w (((W.setCell ⟨w.heap.size + 1, 0, none⟩ (.bool u.1)).setCell ⟨w.heap.size + 1, 1, none⟩ (.slice o l c)).setCell ⟨w.heap.size + 1, 2, none⟩ (.int .i64 u.2.2)) := ((hB.setCell (Nat.le_succ _) _).setCell (Nat.le_succ _) _).setCell (Nat.le_succ _) _
    exact ⟨(natV_store hN hK).below ((Below.refl _ _).alloc (Nat.le_refl _) _) (Nat.le_refl _), h3.alloc h3.size _⟩
  cases hp : (bits BinOp.and IntKind.i64 pick 3 == 0) with
  | true =>
    go_wp2
    obtain ⟨r0, r1, r2, -, -, -⟩ := blk3 (blk_old (blk_store3 (a := .bool x.1) (b := .slice ao la ca) (c := .int .i64 x.2.2) K4.out) (Obj.cells #[.bool x.1, .slice ao la ca, .int .i64 x.2.2, .bool y.1, .slice bo lb cb, .int .i64 y.2.2] 98))
    refine bodyPost_ret (v := .agg #[.bool x.1, .slice ao la ca, .int .i64 x.2.2]) (by simp [results, Tryz.results170, go_sem, r0, r1, r2]) rfl ?_
    obtain ⟨a, b⟩ := NIV.out x ao la ca w1 (Obj.cells #[.bool x.1, .slice ao la ca, .int .i64 x.2.2, .bool y.1, .slice bo lb cb, .int .i64 y.2.2] 98) NA.out K4.out HB.out
    exact ⟨x, ao, la, ca, rfl, LA.out, a, C1.out, b⟩
  | false =>
    cases hq : (bits BinOp.and IntKind.i64 pick 3 == 1) with
    | true =>
      go_wp2
      obtain ⟨r0, r1, r2, -, -, -⟩ := blk3 (blk_old (blk_store3 (a := .bool y.1) (b := .slice bo lb cb) (c := .int .i64 y.2.2) K4.out) (Obj.cells #[.bool x.1, .slice ao la ca, .int .i64 x.2.2, .bool y.1, .slice bo lb cb, .int .i64 y.2.2] 98))
      refine bodyPost_ret (v := .agg #[.bool y.1, .slice bo lb cb, .int .i64 y.2.2]) (by simp [results, Tryz.results170, go_sem, r0, r1, r2]) rfl ?_
      obtain ⟨a, b⟩ := NIV.out y bo lb cb w1 (Obj.cells #[.bool x.1, .slice ao la ca, .int .i64 x.2.2, .bool y.1, .slice bo lb cb, .int .i64 y.2.2] 98) NB.out K4.out HB.out
      exact ⟨y, bo, lb, cb, rfl, LB.out, a, C2.out, b⟩
    | false =>
      have HSM : Hid (∀ W, Below w1.heap.size w1 W → Calls Tryz.prog 65 #[.agg #[.bool x.1, .slice ao la ca, .int .i64 x.2.2], .agg #[.bool y.1, .slice bo lb cb, .int .i64 y.2.2]] W fun ev w'' => ∃ vo vl vc, ev = .returned (.agg #[.bool (sumT x y).1, .slice vo vl vc, .int .i64 (sumT x y).2.2]) ∧ vl = (digits (sumT x y).2.1).length ∧ NatV w'' (.slice vo vl vc) (sumT x y).2.1 ∧ Below W.heap.size W w'') := fun W hW => sum_g P1.out.sm P2.out.sm W _ _ _ _ _ _ LA.out (NA.out.below hW (Nat.le_refl _)) LB.out (NB.out.below hW (Nat.le_refl _))
      have hsb : Hid (Sm (sumT x y)) := P1.out.sum P2.out
      go_wp2_with fail
      have hba : Below w1.heap.size w1 (w1.alloc (Obj.cells #[.bool x.1, .slice ao la ca, .int .i64 x.2.2, .bool y.1, .slice bo lb cb, .int .i64 y.2.2] 98)) := (Below.refl _ _).alloc (Nat.le_refl _) _
      generalize (w1.alloc (Obj.cells #[.bool x.1, .slice ao la ca, .int .i64 x.2.2, .bool y.1, .slice bo lb cb, .int .i64 y.2.2] 98)) = W3 at *
      refine Calls.mono (HSM.out _ hba) ?_
      rintro e w2 ⟨vo, vl, vc, rfl, hl, hn, hbk⟩
      have K4 := hid (blk_below (blk_below K4.out hba) hbk)
      have HB := hid ((HB.out.trans (hba.mono HB.out.size)).trans (hbk.mono (HB.out.trans (hba.mono HB.out.size)).size))
      have LS := hid hl
      have NS := hid hn
      have q1 := hsb.out.l
      have q2 := hsb.out.u
      clear hl hn hbk hba HSM z0 z1 z2 f0 f1 f2 hlt hsb
      obtain ⟨z0, z1, z2, f0, f1, f2⟩ := blk3 K4.out
      have hlt := lt_of_row K4.out
      generalize sumT x y = s at *
      have hw : wrap64 (s.2.2 - 1) = s.2.2 - 1 := by unfold wrap64; omega
      go_wp2
      obtain ⟨r0, r1, r2, -, -, -⟩ := blk3 (blk_old (blk_store3 (a := .bool s.1) (b := .slice vo vl vc) (c := .int .i64 (s.2.2 - 1)) K4.out) (Obj.cells #[.bool s.1, .slice vo vl vc, .int .i64 (s.2.2 - 1)] 92))
      refine bodyPost_ret (v := .agg #[.bool s.1, .slice vo vl vc, .int .i64 (s.2.2 - 1)]) (by simp [results, Tryz.results170, go_sem, r0, r1, r2]) rfl ?_
      obtain ⟨a, b⟩ := NIV.out (halfT s) vo vl vc w2 (Obj.cells #[.bool s.1, .slice vo vl vc, .int .i64 (s.2.2 - 1)] 92) NS.out K4.out HB.out
      exact ⟨halfT s, vo, vl, vc, rfl, LS.out, a, C3.out, b⟩
end Go.Proofs.YtonhpkigoplmaaaGreatDoor
namespace Go.Proofs.YtonhpkigoplmaaaGreatDoor
open Go.RowKit Go.Extern Ieee

set_option maxHeartbeats 2000000 in
set_option maxRecDepth 100000 in
theorem shaped_any (ao bo : Option Addr) (na ac d nb bc : Nat) (w : World) (hnb : nb < 4611686018427387904) (hd : d ≤ 5) :
    Calls Tryz.prog 135 #[.slice ao na ac, .int .i64 (d : Int), .slice bo nb bc] w fun e w' => ∃ r, e = .returned (.bool r) ∧ (r = true ↔ Shp na d nb) ∧ w' = w := by
  have HS : Hid (Shp na d nb ↔ (nb ≠ 0 ∧ nb ≤ 4 ∧ d ≠ 0 ∧ (nb = 1 ∧ na = 1 ∨ nb ≠ 1 ∧ d = nb ∧ na = nb * nb))) := Iff.rfl
  generalize Shp na d nb = X at *
  have HD := hid hd
  clear hd
  by_cases h1 : nb = 0
  · have g1 : decide ((nb : Int) < 1) = true := decide_eq_true (by omega)
    have hr : Hid (false = true ↔ X) := by show _ ↔ _; rw [HS.out]; simp [h1]
    clear h1 HS
    go_enter Tryz.func135, Tryz.ntmps135
    go_wp2
    go_ret
    exact ⟨_, rfl, hr.out, rfl⟩
  · have g1 : decide ((nb : Int) < 1) = false := decide_eq_false (by omega)
    by_cases h2 : 4 < nb
    · have g2 : decide ((nb : Int) > 4) = true := decide_eq_true (by omega)
      have hr : Hid (false = true ↔ X) := by show _ ↔ _; rw [HS.out]; simp; omega
      clear h1 h2 HS
      go_enter Tryz.func135, Tryz.ntmps135
      go_wp2
      go_ret
      exact ⟨_, rfl, hr.out, rfl⟩
    · have g2 : decide ((nb : Int) > 4) = false := decide_eq_false (by omega)
      by_cases h3 : d = 0
      · have g3 : decide ((d : Int) < 1) = true := decide_eq_true (by omega)
        have hr : Hid (false = true ↔ X) := by show _ ↔ _; rw [HS.out]; simp; omega
        clear h1 h2 h3 HS
        go_enter Tryz.func135, Tryz.ntmps135
        go_wp2
        go_ret
        exact ⟨_, rfl, hr.out, rfl⟩
      · have g3 : decide ((d : Int) < 1) = false := decide_eq_false (by omega)
        by_cases h4 : nb = 1
        · have hr : Hid (((na : Int) == 1) = true ↔ X) := by
            show _ ↔ _
            rw [HS.out, beq_iff_eq]
            omega
          subst h4
          clear h1 h2 h3 HS g1 g2
          generalize hb : ((na : Int) == 1) = r at *
          go_enter Tryz.func135, Tryz.ntmps135
          go_wp2
          go_ret
          exact ⟨_, rfl, hr.out, rfl⟩
        · have g4 : ((nb : Int) == 1) = false := by rw [beq_eq_false_iff_ne]; omega
          by_cases h5 : d = nb
          · subst h5
            have e1 : ((d : Int) == (d : Int)) = true := by simp
            have hr : Hid (((na : Int) == (d : Int) * (d : Int)) = true ↔ X) := by
              show _ ↔ _
              rw [HS.out, beq_iff_eq, ← Int.natCast_mul, Int.natCast_inj]
              constructor
              · intro h; exact ⟨h1, by omega, h3, .inr ⟨h4, rfl, h⟩⟩
              · intro h; rcases h.2.2.2 with h | h
                · exact absurd h.1 h4
                · exact h.2.2
            have m1 : (d : Int) * (d : Int) ≤ 25 := by
              have := HD.out
              have : d * d ≤ 5 * 5 := Nat.mul_le_mul this this
              omega
            have m2 : 0 ≤ (d : Int) * (d : Int) := by rw [← Int.natCast_mul]; omega
            clear HS
            generalize hm : (d : Int) * (d : Int) = dd at *
            generalize hb : ((na : Int) == dd) = r at *
            clear h1 h2 h3 h4
            go_enter Tryz.func135, Tryz.ntmps135
            go_wp2
            go_ret
            exact ⟨_, rfl, hr.out, rfl⟩
          · have g5 : ((d : Int) == (nb : Int)) = false := by rw [beq_eq_false_iff_ne]; omega
            have hr : Hid (false = true ↔ X) := by
              show _ ↔ _
              rw [HS.out]
              constructor
              · intro h; cases h
              · intro h; rcases h.2.2.2 with h | h
                · exact absurd h.1 h4
                · exact absurd h.2.1 h5
            clear h1 h2 h3 h4 h5 HS
            go_enter Tryz.func135, Tryz.ntmps135
            go_wp2
            go_ret
            exact ⟨_, rfl, hr.out, rfl⟩

set_option maxHeartbeats 1000000 in
set_option maxRecDepth 100000 in
theorem amount_any (s : Bool) (o : Option Addr) (l c : Nat) (e : Int) (w : World) : Calls Tryz.prog 169 #[.agg #[.bool s, .slice o l c, .int .i64 e]] w fun ev w' => ev = .returned (.agg #[.bool false, .slice o l c, .int .i64 e]) ∧ Below w.heap.size w w' := by
  go_enter Tryz.func169, Tryz.ntmps169
  go_wp2
  refine bodyPost_ret (v := .agg #[.bool false, .slice o l c, .int .i64 e]) (by simp [results, Tryz.results169, go_sem]) rfl ?_
  exact ⟨rfl, ((Below.refl _ _).alloc (Nat.le_refl _) _).alloc (by simp) _⟩
end Go.Proofs.YtonhpkigoplmaaaGreatDoor
namespace Go.Proofs.YtonhpkigoplmaaaGreatDoor
open Go.RowKit Go.Extern Ieee

/-- The row i is one of numbers, with a heavy diagonal. -/
structure SurR (n : Nat) (xs ys : Nat → Nat × Nat) (i : Nat) : Prop where
  b : (ys i).1 = (ys i).2
  a : ∀ j, j < n → (xs (n * i + j)).1 = (xs (n * i + j)).2
  dom : 4 * sumR n (fun j => if j = i then 0 else ab (valW (xs (n * i + j)).1)) ≤ ab (valW (xs (n * i + i)).1)
  nz : valW (xs (n * i + i)).1 ≠ 0

/-- Inside the row i, behind j numbers. -/
structure SurS (n : Nat) (xs : Nat → Nat × Nat) (i j : Nat) (s d : Bool × Nat × Int) : Prop where
  a : ∀ k, k < j → (xs (n * i + k)).1 = (xs (n * i + k)).2
  vs : valQ s = sumR j (fun k => if k = i then 0 else ab (valW (xs (n * i + k)).1))
  bs : Bq 952 (952 + j) s
  vd : i < j → valQ d = ab (valW (xs (n * i + i)).1)
  bd : Bq 952 952 d
theorem SurS.start (n : Nat) (xs : Nat → Nat × Nat) (i : Nat) : SurS n xs i 0 (false, 0, 0) (false, 0, 0) := ⟨fun k hk => by omega, val_zero rfl, Bq.zero _ _, fun h => by omega, Bq.zero _ _⟩
theorem SurS.other {n : Nat} {xs : Nat → Nat × Nat} {i j : Nat} {s d : Bool × Nat × Int} (h : SurS n xs i j s d) (hp : (xs (n * i + j)).1 = (xs (n * i + j)).2) (hq : Pl (plT (xs (n * i + j)).1)) (hij : i ≠ j) : SurS n xs i (j + 1) (sumT s (amtT (plT (xs (n * i + j)).1))) d := by
  refine ⟨fun k hk => ?_, ?_, (h.bs.sum (hq.bq.amt.mono (Nat.le_refl _) (by omega))).mono (Nat.le_refl _) (by omega), fun hl => h.vd (by omega), h.bd⟩
  · by_cases hkj : k = j
    · rw [hkj]; exact hp
    · exact h.a k (by omega)
  · rw [val_sum, h.vs, val_amt]
    show _ = sumR j _ + (if j = i then 0 else _)
    rw [if_neg (by omega)]
    rfl
theorem SurS.same {n : Nat} {xs : Nat → Nat × Nat} {i : Nat} {s d : Bool × Nat × Int} (h : SurS n xs i i s d) (hp : (xs (n * i + i)).1 = (xs (n * i + i)).2) (hq : Pl (plT (xs (n * i + i)).1)) : SurS n xs i (i + 1) s (amtT (plT (xs (n * i + i)).1)) := by
  refine ⟨fun k hk => ?_, ?_, h.bs.mono (Nat.le_refl _) (by omega), fun _ => val_amt _, hq.bq.amt⟩
  · by_cases hkj : k = i
    · rw [hkj]; exact hp
    · exact h.a k (by omega)
  · rw [h.vs]
    show _ = sumR i _ + (if i = i then 0 else _)
    rw [if_pos rfl]
    grind
/-- A number's fourfold. -/
def fourT (x : Bool × Nat × Int) : Bool × Nat × Int := (x.1, x.2.1, x.2.2 + 2)
theorem val_four (x : Bool × Nat × Int) : valQ (fourT x) = 4 * valQ x := by
  unfold fourT valQ
  simp only
  have h := pw_add x.2.2 2
  have h2 := pw_add 1 1
  rw [show (1 : Int) + 1 = 2 by rfl, pw_one] at h2
  rw [h, h2]; grind
theorem SurS.done {n : Nat} {xs ys : Nat → Nat × Nat} {i : Nat} {s d : Bool × Nat × Int} (h : SurS n xs i n s d) (hi : i < n) (hb : (ys i).1 = (ys i).2) (hl : lessT d (fourT s) = false) (hz : sgnI d.1 d.2.1 ≠ 0) : SurR n xs ys i := by
  have hd := h.vd hi
  refine ⟨hb, h.a, ?_, fun hc => ?_⟩
  · have h1 := less_val d (fourT s)
    rw [hl, val_four, h.vs, hd] at h1
    apply Decidable.byContradiction
    intro hc
    exact absurd (h1.2 (by grind)) (by simp)
  · rw [hc, ab_zero] at hd
    have a := (sgn_val d).1.2 (by grind)
    have b := (sgn_val d).2.2 (by grind)
    omega

/-- The two sums in memory. -/
structure SuM (w wr : World) (gs gd : Nat) (s d : Bool × Nat × Int) (so : Option Addr) (sl sc : Nat) (do_ : Option Addr) (dl dc : Nat) : Prop where
  ks : NBk wr gs s so sl sc
  kd : NBk wr gd d do_ dl dc
  ne : gs ≠ gd
  hs : w.heap.size ≤ gs
  hd : w.heap.size ≤ gd
  hb : Below w.heap.size w wr
theorem SuM.below {w wr W : World} {gs gd : Nat} {s d : Bool × Nat × Int} {so : Option Addr} {sl sc : Nat} {do_ : Option Addr} {dl dc : Nat} (m : SuM w wr gs gd s d so sl sc do_ dl dc) (hb : Below wr.heap.size wr W) : SuM w W gs gd s d so sl sc do_ dl dc := ⟨m.ks.below hb, m.kd.below hb, m.ne, m.hs, m.hd, m.hb.trans (hb.mono m.hb.size)⟩
theorem SuM.setS {w wr : World} {gs gd : Nat} {s d x : Bool × Nat × Int} {so xo : Option Addr} {sl sc xl xc : Nat} {do_ : Option Addr} {dl dc : Nat} (m : SuM w wr gs gd s d so sl sc do_ dl dc) (hl : xl = (digits x.2.1).length) (hn : NatV wr (.slice xo xl xc) x.2.1) : SuM w (((wr.setCell ⟨gs, 0, none⟩ (.bool x.1)).setCell ⟨gs, 1, none⟩ (.slice xo xl xc)).setCell ⟨gs, 2, none⟩ (.int .i64 x.2.2)) gs gd x d xo xl xc do_ dl dc :=
  ⟨⟨blk_store3 m.ks.blk, hl, natV_store hn m.ks.blk⟩, ⟨blk_store3_ne m.kd.blk (fun e => m.ne e.symm), m.kd.len, natV_store m.kd.nat m.ks.blk⟩, m.ne, m.hs, m.hd, ((m.hb.setCell (by exact m.hs) _).setCell (by exact m.hs) _).setCell (by exact m.hs) _⟩
theorem SuM.setD {w wr : World} {gs gd : Nat} {s d x : Bool × Nat × Int} {so xo : Option Addr} {sl sc xl xc : Nat} {do_ : Option Addr} {dl dc : Nat} (m : SuM w wr gs gd s d so sl sc do_ dl dc) (hl : xl = (digits x.2.1).length) (hn : NatV wr (.slice xo xl xc) x.2.1) : SuM w (((wr.setCell ⟨gd, 0, none⟩ (.bool x.1)).setCell ⟨gd, 1, none⟩ (.slice xo xl xc)).setCell ⟨gd, 2, none⟩ (.int .i64 x.2.2)) gs gd s x so sl sc xo xl xc :=
  ⟨⟨blk_store3_ne m.ks.blk m.ne, m.ks.len, natV_store m.ks.nat m.kd.blk⟩, ⟨blk_store3 m.kd.blk, hl, natV_store hn m.kd.blk⟩, m.ne, m.hs, m.hd, ((m.hb.setCell (by exact m.hd) _).setCell (by exact m.hd) _).setCell (by exact m.hd) _⟩
theorem blk_setE {W : World} {g : Nat} {a b c c' : Value} {t : TypeId} (h : W.heap[g]? = some (.cells #[a, b, c] t (0, 0))) : (W.setCell ⟨g, 2, none⟩ c').heap[g]? = some (.cells #[a, b, c'] t (0, 0)) := by
  obtain ⟨hlt, hk⟩ := Array.getElem?_eq_some_iff.1 h
  show (W.heap.modify g _)[g]? = _
  rw [Array.getElem?_eq_getElem (by rw [Array.size_modify]; exact hlt), Array.getElem_modify_self, hk]
  rfl
theorem natV_setE {W : World} {g : Nat} {c' : Value} {cur : Array Value} {v : Value} {n : Nat} (h : NatV W v n) (hg : W.heap[g]? = some (.cells cur 92 (0, 0))) : NatV (W.setCell ⟨g, 2, none⟩ c') v n :=
  h.keeps fun g' cur' hh => by
    have : g' ≠ g := fun e => by
      subst e
      rw [hg] at hh
      cases hh
    rw [Below.heap_setCell _ _ _ g' (fun e => this e)]
    exact hh
theorem SuM.setE {w wr : World} {gs gd : Nat} {s d : Bool × Nat × Int} {so : Option Addr} {sl sc : Nat} {do_ : Option Addr} {dl dc : Nat} (m : SuM w wr gs gd s d so sl sc do_ dl dc) : SuM w (wr.setCell ⟨gs, 2, none⟩ (.int .i64 (s.2.2 + 2))) gs gd (fourT s) d so sl sc do_ dl dc :=
  ⟨⟨blk_setE m.ks.blk, m.ks.len, natV_setE m.ks.nat m.ks.blk⟩, ⟨by rw [Below.heap_setCell _ _ _ gd (fun e => m.ne e.symm)]; exact m.kd.blk, m.kd.len, natV_setE m.kd.nat m.ks.blk⟩, m.ne, m.hs, m.hd, m.hb.setCell (by exact m.hs) _⟩
def Ivs (n : Nat) (xs : Nat → Nat × Nat) : Prop := ∀ i, i < n → Iv (xs i).1 (xs i).2

set_option maxHeartbeats 16000000 in
set_option maxRecDepth 100000 in
theorem sure_any (ao bo : Option Addr) (n na ac bc : Nat) (xs ys : Nat → Nat × Nat) (w : World) (hx : BxV w ao na xs) (hy : BxV w bo n ys) (hna : na = n * n) (hn : n ≤ 4) (ix : Ivs na xs) :
    Calls Tryz.prog 138 #[.slice ao na ac, .slice bo n bc] w fun e w' => ∃ r, e = .returned (.bool r) ∧ (r = true → ∀ i, i < n → SurR n xs ys i) ∧ Below w.heap.size w w' := by
  have HX := hid hx
  have HY := hid hy
  have IX := hid ix
  have HNA := hid hna
  clear hx hy ix hna
  go_enter Tryz.func138, Tryz.ntmps138
  go_wp2
  go_loopw [6] (fun x wr => ∃ i : Nat, i ≤ n ∧ x = .int .i64 (i : Int) ∧ (∀ k, k < i → SurR n xs ys k) ∧ Below w.heap.size w wr) (fun x _ => n - (intOf x).toNat)
  case atStart => exact ⟨0, Nat.zero_le _, rfl, fun i hi => by omega, Below.refl _ _⟩
  case round =>
    obtain ⟨i, hi1, rfl, hr, hb⟩ := hrel
    have HR := hid hr
    have HB := hid hb
    clear hr hb
    by_cases hin : i < n
    · have gi : decide ((i : Int) < (n : Int)) = true := decide_eq_true (by omega)
      obtain ⟨g, off, rfl, hg, hc⟩ := HY.out.resolve_left (by omega)
      obtain ⟨c1, c2⟩ := hc i hin
      rw [← HB.out.cell (by exact hg)] at c1 c2
      have hgl : g < wr.heap.size := Nat.lt_of_lt_of_le hg HB.out.size
      by_cases hyy : (ys i).1 = (ys i).2
      · have HYY := hid hyy
        rw [← hyy] at c2
        clear hyy hc hg
        generalize (ys i).1 = y1 at c1 c2
        go_wp2_with fail
        go_cut [31] (fun s wc => s = .bool false ∧ wc.heap = wr.heap ∧ Below w.heap.size w wc)
        case first =>
          have BD := hid HB.out.drew
          go_region
          all_goals (go_wp2_with fail; go_meet)
          all_goals exact ⟨by simp, rfl, BD.out⟩
        case rest =>
          obtain ⟨rfl, -, hbc⟩ := hcut
          have HB2 := hid hbc
          clear HB c1 c2 hbc hgl HY
          go_wp2_with fail
          have SM0 : Hid (SuM w ((wc.alloc (Obj.cells #[.bool false, .slice none 0 0, .int .i64 0] 92)).alloc (Obj.cells #[.bool false, .slice none 0 0, .int .i64 0] 92)) wc.heap.size (wc.heap.size + 1) (false, 0, 0) (false, 0, 0) none 0 0 none 0 0) := by
            have B1 := blk_new (wc.alloc (Obj.cells #[.bool false, .slice none 0 0, .int .i64 0] 92)) (Obj.cells #[.bool false, .slice none 0 0, .int .i64 0] 92)
            simp only [World.size_alloc] at B1
            have hs := HB2.out.size
            exact ⟨⟨blk_old (blk_new wc _) _, by simp [digits_zero], NatV.zero _⟩, ⟨B1, by simp [digits_zero], NatV.zero _⟩, by omega, hs, by omega, (HB2.out.alloc hs _).alloc (by simp; omega) _⟩
          clear HB2
          generalize ((wc.alloc (Obj.cells #[.bool false, .slice none 0 0, .int .i64 0] 92)).alloc (Obj.cells #[.bool false, .slice none 0 0, .int .i64 0] 92)) = W2 at *
          generalize wc.heap.size = gs at *
          go_loopw [9] (fun x wy => ∃ (j : Nat) (s d : Bool × Nat × Int) (so : Option Addr) (sl sc : Nat) (do_ : Option Addr) (dl dc : Nat), j ≤ n ∧ x = .int .i64 (j : Int) ∧ SuM w wy gs (gs + 1) s d so sl sc do_ dl dc ∧ SurS n xs i j s d) (fun x _ => n - (intOf x).toNat)
          case atStart => exact ⟨0, _, _, _, _, _, _, _, _, Nat.zero_le _, rfl, SM0.out, SurS.start _ _ _⟩
          case round =>
            obtain ⟨j, s, d, so, sl, sc, do_, dl, dc, hj1, rfl, hm, hs⟩ := hrel
            have SM := hid hm
            have SS := hid hs
            clear hm hs SM0
            by_cases hj : j < n
            · have hidx : n * i + j < na := by
                have : n * (i + 1) ≤ n * n := Nat.mul_le_mul_left n (by omega)
                have := HNA.out
                have h3 : n * (i + 1) = n * i + n := Nat.mul_succ n i
                omega
              obtain ⟨ga, offa, rfl, hga, hca⟩ := HX.out.resolve_left (by omega)
              obtain ⟨a1, a2⟩ := hca _ hidx
              rw [← SM.out.hb.cell (by exact hga)] at a1 a2
              have hgl : ga < wr.heap.size := Nat.lt_of_lt_of_le hga SM.out.hb.size
              have iv := IX.out _ hidx
              have SO := hid (SS.out.other (j := j))
              have SM4S := hid (SS.out.bs.sm (by omega) (by omega))
              have SA : Hid (∀ hij : i = j, (xs (n * i + j)).1 = (xs (n * i + j)).2 → Pl (plT (xs (n * i + j)).1) → SurS n xs i (j + 1) s (amtT (plT (xs (n * i + j)).1))) := by
                intro hij h1 h2
                subst hij
                exact SS.out.same h1 h2
              have hmul : (n : Int) * (i : Int) = ((n * i : Nat) : Int) := by simp
              have hni : n * i ≤ 16 := Nat.mul_le_mul hn (by omega : i ≤ 4)
              have PL := hid (pl_of iv.p1)
              have MG := hid (made_gives (xs (n * i + j)).1 (xs (n * i + j)).2 iv.lt1 iv.lt2)
              rw [make_iv iv] at MG
              simp only at MG
              generalize hpt : xs (n * i + j) = pt at *
              generalize n * i = ni at *
              obtain ⟨p1, p2⟩ := pt
              simp only at *
              clear iv hca hga
              by_cases hp : p1 = p2
              · subst hp
                go_wp2_with fail
                have ha1 : Below wr.heap.size wr (wr.alloc (Obj.cells #[.int .u64 (p1 : Int), .int .u64 (p1 : Int)] 28)) := (Below.refl _ _).alloc (Nat.le_refl _) _
                generalize (wr.alloc (Obj.cells #[.int .u64 (p1 : Int), .int .u64 (p1 : Int)] 28)) = W3 at *
                refine Calls.mono (MG.out _) ?_
                rintro e w3 ⟨ao1, la, ca, bo1, lb, cb, rfl, hla, hlb, hna1, hnb1, hbk⟩
                have SM3 := hid ((SM.out.below ha1).below hbk)
                have ha2 : Below w3.heap.size w3 (w3.alloc (Obj.cells #[.bool (plT p1).1, .slice ao1 la ca, .int .i64 (plT p1).2.2, .bool (plT p1).1, .slice bo1 lb cb, .int .i64 (plT p1).2.2] 98)) := (Below.refl _ _).alloc (Nat.le_refl _) _
                have N3 := hid hna1
                have LA := hid hla
                clear hna1 hla hlb hnb1 hbk ha1 SM MG a1 a2 SS HX HR IX
                generalize plT p1 = x at *
                go_wp2_with fail
                generalize (w3.alloc (Obj.cells #[.bool x.1, .slice ao1 la ca, .int .i64 x.2.2, .bool x.1, .slice bo1 lb cb, .int .i64 x.2.2] 98)) = W4 at *
                refine Calls.mono (amount_any _ _ _ _ _ _) ?_
                rintro e w4 ⟨rfl, hb4⟩
                have hb34 := ha2.trans (hb4.mono ha2.size)
                have SM4 := hid (SM3.out.below hb34)
                have N4 := hid (N3.out.below hb34 (Nat.le_refl _))
                clear hb4 ha2 hb34 SM3 N3
                by_cases hij : i = j
                · have gij : ((i : Int) == (j : Int)) = true := by rw [beq_iff_eq]; omega
                  have SN := hid (SA.out hij (by first | rfl | trivial) PL.out)
                  have MN := hid ((SM4.out.setD (x := amtT x) (xo := ao1) (xl := la) (xc := ca) LA.out N4.out).below ((Below.refl _ _).alloc (Nat.le_refl _) (Obj.cells #[.bool false, .slice ao1 la ca, .int .i64 x.2.2] 92)))
                  obtain ⟨d0, d1, d2, f0, f1, f2⟩ := blk3 SM4.out.kd.blk
                  have hlt := lt_of_row SM4.out.kd.blk
                  clear SO SA PL LA N4 SM4 hij
                  go_wp2
                  go_roundw
                  case rel => first | exact ⟨j + 1, _, _, _, _, _, _, _, _, by omega, by go_num, MN.out, SN.out⟩ | ((repeat apply Exists.intro); exact ⟨⟨j + 1, _, _, _, _, _, _, _, _, by omega, by go_num, MN.out, SN.out⟩, rfl⟩)
                  case measure => simp [intOf]; omega
                · have gij : ((i : Int) == (j : Int)) = false := by rw [beq_eq_false_iff_ne]; omega
                  have SN := hid (SO.out (by first | rfl | trivial) PL.out hij)
                  have ha5 : Below w4.heap.size w4 (w4.alloc (Obj.cells #[.bool false, .slice ao1 la ca, .int .i64 x.2.2] 92)) := (Below.refl _ _).alloc (Nat.le_refl _) _
                  have SM5 := hid (SM4.out.below ha5)
                  have HSM := hid (sum_g (x := s) (y := amtT x) (SM4S.out) (PL.out.bq.amt.sm (by omega) (by omega)) (w4.alloc (Obj.cells #[.bool false, .slice ao1 la ca, .int .i64 x.2.2] 92)) so ao1 sl sc la ca SM5.out.ks.len SM5.out.ks.nat LA.out (N4.out.below ha5 (Nat.le_refl _)))
                  obtain ⟨s0, s1, s2, -, -, -⟩ := blk3 SM4.out.ks.blk
                  have hlt := lt_of_row SM4.out.ks.blk
                  clear SO SA PL LA N4 hij
                  go_wp2_with fail
                  generalize (w4.alloc (Obj.cells #[.bool false, .slice ao1 la ca, .int .i64 x.2.2] 92)) = W5 at *
                  refine Calls.mono HSM.out ?_
                  rintro e w6 ⟨vo, vl, vc, rfl, hvl, hvn, hb6⟩
                  have SM6 := hid (SM5.out.below hb6)
                  have MN := hid (SM6.out.setS hvl hvn)
                  clear hvl hvn hb6 SM5 SM4 ha5 HSM s0 s1 s2 hlt
                  obtain ⟨s0, s1, s2, f0, f1, f2⟩ := blk3 SM6.out.ks.blk
                  have hlt := lt_of_row SM6.out.ks.blk
                  clear SM6
                  generalize sumT s (amtT x) = st at *
                  go_wp2
                  go_roundw
                  case rel => first | exact ⟨j + 1, _, _, _, _, _, _, _, _, by omega, by go_num, MN.out, SN.out⟩ | ((repeat apply Exists.intro); exact ⟨⟨j + 1, _, _, _, _, _, _, _, _, by omega, by go_num, MN.out, SN.out⟩, rfl⟩)
                  case measure => simp [intOf]; omega
              · have g2 : ((p1 : Int) != (p2 : Int)) = true := by rw [bne_iff_ne]; omega
                have BB := hid SM.out.hb
                clear SM SS SO SA MG PL HR
                go_wp2
                go_ret
                exact ⟨false, rfl, (fun h => by cases h), (BB.out.alloc BB.out.size _)⟩
            · obtain rfl : n = j := by omega
              have SB := hid (SS.out.bs.sm (by omega) (by omega))
              have DB := hid (SS.out.bd.sm (by omega) (by omega))
              have DN : Hid (lessT d (fourT s) = false → sgnI d.1 d.2.1 ≠ 0 → SurR n xs ys i) := fun h1 h2 => SS.out.done hin HYY.out h1 h2
              have q1 := SS.out.bs.l
              have q2 := SS.out.bs.u
              have hw4 : IntKind.i64.wrap (s.2.2 + 2) = s.2.2 + 2 := by rw [IntKind.wrap_i64]; omega
              have F4 : Hid (Sm (fourT s)) := ⟨SB.out.b, by have := SS.out.bs.l; unfold fourT; simp only; omega, by have := SS.out.bs.u; unfold fourT; simp only; omega⟩
              have SM7 := hid SM.out.setE
              obtain ⟨s0, s1, s2, f0, f1, f2⟩ := blk3 SM.out.ks.blk
              have hlt := lt_of_row SM.out.ks.blk
              clear SS HX IX
              go_upto_region 21 with fail
              generalize (wr.setCell ⟨gs, 2, none⟩ (.int .i64 (s.2.2 + 2))) = W7 at *
              clear SM s0 s1 s2 f0 f1 f2 hlt hw4 q1 q2
              obtain ⟨s0, s1, s2, -, -, -⟩ := blk3 SM7.out.ks.blk
              obtain ⟨d0, d1, d2, -, -, -⟩ := blk3 SM7.out.kd.blk
              have hlt := lt_of_row SM7.out.ks.blk
              have hltd := lt_of_row SM7.out.kd.blk
              have HLS := hid (less_g DB.out F4.out W7 do_ so dl dc sl sc SM7.out.kd.len SM7.out.kd.nat SM7.out.ks.len SM7.out.ks.nat)
              generalize fourT s = s4 at *
              go_wp2_with fail
              refine Calls.mono HLS.out ?_
              rintro e w8 ⟨rfl, hb8⟩
              have SM8 := hid (SM7.out.below hb8)
              have BB := hid SM8.out.hb
              have HSG := hid (sign_any _ d.1 d.2.1 d.2.2 w8 ⟨do_, dl, dc, rfl, SM8.out.kd.len, SM8.out.kd.nat⟩)
              obtain ⟨d0', d1', d2', -, -, -⟩ := blk3 SM8.out.kd.blk
              have hltd' := lt_of_row SM8.out.kd.blk
              clear hb8 SM7 HLS s0 s1 s2 d0 d1 d2 hlt hltd SM8 F4 SB DB
              generalize lessT d s4 = r1 at *
              cases r1 with
              | true =>
                go_wp2
                go_ret
                exact ⟨false, rfl, (fun h => by cases h), BB.out⟩
              | false =>
                go_wp2_with fail
                refine Calls.mono HSG.out ?_
                rintro e w9 ⟨rfl, hb9⟩
                have BB9 := hid (BB.out.trans (hb9.mono BB.out.size))
                clear hb9 BB HSG d0' d1' d2' hltd'
                by_cases hz : sgnI d.1 d.2.1 = 0
                · have gz : (sgnI d.1 d.2.1 == 0) = true := by rw [beq_iff_eq]; exact hz
                  clear hz
                  go_wp2
                  go_ret
                  exact ⟨false, rfl, (fun h => by cases h), BB9.out⟩
                · have gz : (sgnI d.1 d.2.1 == 0) = false := by rw [beq_eq_false_iff_ne]; exact hz
                  have HRN : Hid (∀ k, k < i + 1 → SurR n xs ys k) := fun k hk => by
                    by_cases hki : k = i
                    · rw [hki]; exact DN.out (by first | rfl | trivial) hz
                    · exact HR.out k (by omega)
                  clear hz HR DN
                  go_wp2
                  go_roundw
                  case rel => first | exact ⟨i + 1, by omega, by go_num, HRN.out, BB9.out⟩ | ((repeat apply Exists.intro); exact ⟨⟨i + 1, by omega, by go_num, HRN.out, BB9.out⟩, rfl⟩)
                  case measure => simp [intOf]; omega
      · have g2 : (((ys i).1 : Int) != ((ys i).2 : Int)) = true := by rw [bne_iff_ne]; omega
        have BD := hid HB.out.drew
        clear HR HX IX HY
        go_wp2_with fail
        go_region
        all_goals (go_wp2; go_ret; exact ⟨false, rfl, (fun h => by cases h), BD.out⟩)
    · obtain rfl : n = i := by omega
      go_wp2
      go_ret
      exact ⟨true, rfl, fun _ => HR.out, HB.out⟩
end Go.Proofs.YtonhpkigoplmaaaGreatDoor
