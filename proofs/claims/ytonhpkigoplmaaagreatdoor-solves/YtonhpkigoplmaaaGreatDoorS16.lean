/-
  SlvL, SlvJ, SlvM, SlvN, SlvO, SlvP.
-/
import Derived.Test.YtonhpkigoplmaaaGreatDoorS15
import Derived.Test.YtonhpkigoplmaaaGreatDoorS14
import Derived.Deep.RegionLaw
namespace Go.Proofs.YtonhpkigoplmaaaGreatDoor
open Go.RowKit Go.Extern Ieee
attribute [local go_sem] run_store_float

def outW (a : Nat × Nat) : Bool := !reachW a.1 || !reachW a.2

set_option maxHeartbeats 4000000 in
set_option maxRecDepth 100000 in
theorem indexFunc_any (g m c : Nat) (r : Nat → Nat × Nat) (w : World) (hr : RowI w g m r) (hm : m ≤ 100) (iv : ∀ j, j < m → ivW (r j)) :
    Calls Tryz.prog 154 #[.slice (some ⟨g, 0, none⟩) m c, .func (.func 109) #[] #[]] w fun e w' => Below w.heap.size w w' ∧ ((∃ j, j < m ∧ outW (r j) = true ∧ e = .returned (.int .i64 (j : Int))) ∨ (∀ j, j < m → outW (r j) = false) ∧ e = .returned (.int .i64 (-1))) := by
  have HR := hid' hr
  have IV := hid' iv
  clear hr iv
  go_enter Tryz.func154, Tryz.ntmps154
  go_wp2_with fail
  go_loopw [8] (fun x wr => ∃ j : Nat, j ≤ m ∧ x = .int .i64 (j : Int) ∧ Below w.heap.size w wr ∧ ∀ i, i < j → outW (r i) = false) (fun x _ => m - (intOf x).toNat)
  case atStart => exact ⟨0, Nat.zero_le _, rfl, Below.refl _ _, fun i hi => by omega⟩
  case round =>
    obtain ⟨j, hj, rfl, hb, hno⟩ := hrel
    have HB := hid' hb
    have HN := hid' hno
    clear hb hno
    by_cases hjm : j < m
    · obtain ⟨a1, a2, -, -⟩ := (HR.out.below HB.out).cell hjm
      have HO : Hid (∀ W, Calls Tryz.prog 109 #[.agg #[.float .f64 (r j).1, .float .f64 (r j).2]] W fun e w' => e = .returned (.bool (outW (r j))) ∧ Below W.heap.size W w') := fun W => outOfReach_any (IV.out j hjm) W
      generalize h : outW (r j) = b at HO
      have EO := hid' h
      clear h
      generalize (r j).1 = al at *
      generalize (r j).2 = ah at *
      go_wp2_with fail
      refine Calls.mono (HO.out _) ?_
      rintro e w1 ⟨rfl, hb1⟩
      have HB := hid' (HB.out.trans (hb1.mono HB.out.size))
      clear hb1 HO a1 a2
      cases b
      · have HN2 : Hid (∀ i, i < j + 1 → outW (r i) = false) := fun i hi => by
          by_cases hij : i = j
          · rw [hij]; exact EO.out
          · exact HN.out i (by omega)
        clear HN EO
        go_wp2
        go_roundw
        case rel => exact ⟨j + 1, by omega, by go_num, HB.out, HN2.out⟩
        case measure => simp [intOf]; omega
      · clear HN
        go_wp2
        go_ret
        exact ⟨HB.out, .inl ⟨j, hjm, EO.out, rfl⟩⟩
    · have HN2 : Hid (∀ i, i < m → outW (r i) = false) := fun i hi => HN.out i (by omega)
      clear HN
      go_wp2
      go_ret
      exact ⟨HB.out, .inr ⟨HN2.out, rfl⟩⟩

set_option maxHeartbeats 4000000 in
set_option maxRecDepth 100000 in
theorem containsFunc_any (g m c : Nat) (r : Nat → Nat × Nat) (w : World) (hr : RowI w g m r) (hm : m ≤ 100) (iv : ∀ j, j < m → ivW (r j)) :
    Calls Tryz.prog 108 #[.slice (some ⟨g, 0, none⟩) m c, .func (.func 109) #[] #[]] w fun e w' => Below w.heap.size w w' ∧ ((∃ j, j < m ∧ outW (r j) = true) ∧ e = .returned (.bool true) ∨ (∀ j, j < m → outW (r j) = false) ∧ e = .returned (.bool false)) := by
  have HI := hid' (indexFunc_any g m c r w hr hm iv)
  clear hr iv
  go_enter Tryz.func108, Tryz.ntmps108
  go_wp2_with fail
  refine Calls.mono HI.out ?_
  rintro e w1 ⟨hb, ⟨j, hj, ho, rfl⟩ | ⟨ho, rfl⟩⟩
  · have HO := hid' ho
    have HB := hid' hb
    clear HI ho hb
    go_wp2
    go_ret
    exact ⟨HB.out, .inl ⟨⟨j, hj, HO.out⟩, rfl⟩⟩
  · have HO := hid' ho
    have HB := hid' hb
    clear HI ho hb
    go_wp2
    go_ret
    exact ⟨HB.out, .inr ⟨HO.out, rfl⟩⟩
/-- How the rows of a list of lists begin, in memory. -/
def Heads (W : World) (ao : Option Addr) (m : Nat) (ln : Nat → Nat) : Prop := m = 0 ∨ ∃ gr, ao = some ⟨gr, 0, none⟩ ∧ ∀ i, i < m → ∃ po pc, W.cell? ⟨gr, i, none⟩ = some (.slice po (ln i) pc)

def Square (n m : Nat) (ln : Nat → Nat) : Prop := n ≠ 0 ∧ n ≤ 4 ∧ m = n ∧ ∀ i, i < n → ln i = n

set_option maxHeartbeats 4000000 in
set_option maxRecDepth 100000 in
theorem isSquare_any (ao : Option Addr) (m c n : Nat) (ln : Nat → Nat) (w : World) (hh : Heads w ao m ln) (hm : m < 4611686018427387904) (hn : n < 4611686018427387904) (hl : ∀ i, i < m → ln i < 4611686018427387904) :
    Calls Tryz.prog 106 #[.slice ao m c, .int .i64 (n : Int)] w fun e w' => w' = w ∧ (Square n m ln ∧ e = .returned (.bool true) ∨ ¬ Square n m ln ∧ e = .returned (.bool false)) := by
  have HH := hid' hh
  have HL := hid' hl
  clear hh hl
  go_enter Tryz.func106, Tryz.ntmps106
  by_cases c1 : n = 0
  · subst c1
    clear HL HH
    go_wp2_with fail
    go_ret
    exact ⟨rfl, .inr ⟨fun h => h.1 rfl, rfl⟩⟩
  by_cases c2 : n ≤ 4
  · by_cases c3 : m = n
    · subst c3
      rcases HH.out with h0 | ⟨gr, rfl, hc⟩
      · omega
      have HC := hid' hc
      clear hc HH
      have c1' : ((m : Int) == 0) = false := by simp; omega
      have c3' : ((m : Int) != (m : Int)) = false := by simp
      go_wp2_with fail
      go_loopw [21] (fun x wr => ∃ j : Nat, j ≤ m ∧ x = .int .i64 (j : Int) ∧ wr = w ∧ ∀ i, i < j → ln i = m) (fun x _ => m - (intOf x).toNat)
      case atStart => exact ⟨0, Nat.zero_le _, rfl, rfl, fun i hi => by omega⟩
      case round =>
        obtain ⟨j, hj, rfl, rfl, hno⟩ := hrel
        have HN := hid' hno
        clear hno
        by_cases hjm : j < m
        · obtain ⟨po, pc, h1⟩ := HC.out j hjm
          have hlj := HL.out j hjm
          have EQ := hid' (Eq.refl (ln j))
          generalize hx : ln j = x at h1 hlj
          have EX := hid' hx
          clear hx EQ HC HL
          by_cases hxm : x = m
          · subst hxm
            have HN2 : Hid (∀ i, i < j + 1 → ln i = x) := fun i hi => by
              by_cases hij : i = j
              · rw [hij]; exact EX.out
              · exact HN.out i (by omega)
            clear HN EX
            go_wp2
            go_roundw
            case rel => exact ⟨j + 1, by omega, by go_num, trivial, HN2.out⟩
            case measure => simp [intOf]; omega
          · have NO : Hid (¬ Square m m ln) := fun h => hxm (EX.out.symm.trans (h.2.2.2 j hjm))
            have hxi : ¬ ((x : Int) = (m : Int)) := by omega
            clear HN EX
            go_wp2
            go_ret
            exact ⟨rfl, .inr ⟨NO.out, rfl⟩⟩
        · have YES : Hid (Square m m ln) := ⟨c1, c2, rfl, fun i hi => HN.out i (by omega)⟩
          clear HN HC HL
          go_wp2
          go_ret
          exact ⟨rfl, .inl ⟨YES.out, rfl⟩⟩
    · clear HL HH
      have c4 : ((m : Int) != (n : Int)) = true := by simp; omega
      have c5 : ((n : Int) == 0) = false := by simp; omega
      go_wp2_with fail
      go_ret
      exact ⟨rfl, .inr ⟨fun h => c3 h.2.2.1, rfl⟩⟩
  · clear HL HH
    have c5 : ((n : Int) == 0) = false := by simp; omega
    go_wp2_with fail
    go_ret
    exact ⟨rfl, .inr ⟨fun h => c2 h.2.1, rfl⟩⟩
end Go.Proofs.YtonhpkigoplmaaaGreatDoor
namespace Go.Proofs.YtonhpkigoplmaaaGreatDoor
open Go.RowKit Go.Extern Ieee
attribute [local go_sem] run_store_float

theorem infoIv : (Tryz.prog.info? 67).map (fun i => (i.zero, i.size, i.bytes)) = some (some (.agg #[.float .f64 0, .float .f64 0]), 2, 16) := by kernel_rfl

theorem row_made {W : World} {base g n : Nat} (h : W.ownsRow base 67 2 (.slice (some ⟨g, 0, none⟩) n n) n (madeCells (Value.agg #[.float .f64 0, .float .f64 0]).cells (n * 2)).toList) : base ≤ g ∧ RowI W g n (fun _ => (0, 0)) := by
  obtain ⟨-, h | ⟨g', cap, cur, e1, hb, h1, h2, h3, h4, h5⟩⟩ := h
  · obtain ⟨h, -⟩ := h; cases h
  · cases e1
    rw [List.take_of_length_le (by simp; omega)] at h5
    have h6 := Array.toList_inj.1 h5
    subst h6
    refine ⟨hb, _, h1, by rw [h4]; exact Nat.le_refl _, fun j hj => ?_⟩
    have hz : (Value.agg #[.float .f64 0, .float .f64 0]).cells = #[.float .f64 0, .float .f64 0] := by rfl
    unfold madeCells
    rw [hz]
    constructor
    · rw [Array.getElem?_map, Array.getElem?_range, if_pos (by omega)]
      have : (j * 2) % 2 = 0 := by omega
      simp [this]
    · rw [Array.getElem?_map, Array.getElem?_range, if_pos (by omega)]
      have : (j * 2 + 1) % 2 = 1 := by omega
      simp [this]

/-- Where the substitution stands: the places from i on are found. -/
structure Sb (w W : World) (gf n : Nat) (g : Nat → Nat × Nat) (i : Nat) : Prop where
  hb : Below w.heap.size w W
  row : RowI W gf n g
  ge : w.heap.size ≤ gf
  iv : ∀ j, i ≤ j → j < n → ivW (g j)
theorem Sb.below {w W W' : World} {gf n : Nat} {g : Nat → Nat × Nat} {i : Nat} (s : Sb w W gf n g i) (hb : Below W.heap.size W W') : Sb w W' gf n g i := ⟨s.hb.trans (hb.mono s.hb.size), s.row.below hb, s.ge, s.iv⟩
theorem Sb.set {w W : World} {gf n : Nat} {g : Nat → Nat × Nat} {i : Nat} (s : Sb w W gf n g (i + 1)) (hi : i < n) (a b : Nat) (hab : ivW (a, b)) : Sb w ((W.setCell ⟨gf, i * 2, none⟩ (.float .f64 a)).setCell ⟨gf, i * 2 + 1, none⟩ (.float .f64 b)) gf n (upd g i (a, b)) i :=
  ⟨(s.hb.setCell (by exact s.ge) _).setCell (by exact s.ge) _, s.row.set hi a b, s.ge, fun j h1 h2 => by
    by_cases hij : j = i
    · subst hij; rw [upd_same]; exact hab
    · rw [upd_ne hij]; exact s.iv j (by omega) h2⟩

theorem Sb.put {w W : World} {gf n gt : Nat} {g : Nat → Nat × Nat} {i : Nat} (s : Sb w W gf n g i) (h1 : w.heap.size ≤ gt) (h2 : gf ≠ gt) (o : Nat) (v : Value) : Sb w (W.setCell ⟨gt, o, none⟩ v) gf n g i :=
  ⟨s.hb.setCell (by exact h1) _, s.row.grown (grown_set W gt o v) h2, s.ge, s.iv⟩

set_option maxHeartbeats 16000000 in
set_option maxRecDepth 100000 in
theorem substitute_walk (A : Nat → Addr) (gr n cr : Nat) (gb cap : Nat → Nat) (M : Nat → Nat → Nat × Nat) (w0 w : World) (hS : Sents A w0) (hn : n ≤ 90) (e0 : El w0 w gr n gb cap M n) (RES : Option (Nat → Nat × Nat)) (hres : substX muX suX quX n M n (fun _ => (0, 0)) = RES) :
    Calls Tryz.prog 111 #[.slice (some ⟨gr, 0, none⟩) n cr] w fun e w' => Below w.heap.size w w' ∧ ((∃ g gf, RES = some g ∧ e = .returned (.tuple #[.slice (some ⟨gf, 0, none⟩) n n, .nilIface]) ∧ w.heap.size ≤ gf ∧ RowI w' gf n g ∧ ∀ j, j < n → ivW (g j)) ∨ RES = none ∧ e = .returned (.tuple #[.slice none 0 0, .iface 229 (.pointer (some (A 8)))])) := by
  have HS := hid' hS
  have EL := hid' e0
  obtain ⟨i0, hi, hz0, hz1, hz2⟩ := info_parts infoIv
  clear hS e0
  go_enter Tryz.func111, Tryz.ntmps111
  go_wp2_with (at_make; refine wpList_make_full _ rfl _ _ 86 rfl w.heap.size 67 i0 (.agg #[.float .f64 0, .float .f64 0]) 2 Tryz.underlying86 hi hz0 hz1 _ _ _ _ n rfl rfl rfl rfl ?m1 ?m2 ?m3 ?_)
  case m1 => rw [hz2]; omega
  case m2 => unfold maxLen; omega
  case m3 => exact Nat.le_refl _
  intro w1 hown1 hgrow1
  obtain ⟨hge, hrow⟩ := row_made hown1
  have hb1 : Below w.heap.size w w1 := (Below.refl _ _).grown hgrow1 (Nat.le_refl _) (fun k hk => by cases hk)
  obtain ⟨gf, hgf⟩ : ∃ gf, gf = w.heap.size := ⟨_, rfl⟩
  have SB : Hid (Sb w w1 gf n (fun _ => (0, 0)) n) := ⟨hb1, hgf ▸ hrow, Nat.le_of_eq hgf.symm, fun j a b => by omega⟩
  rw [← hgf]
  clear hown1 hgrow1 hge hrow hb1 hi hz0 hz1 hz2 hgf
  have RS0 := hid' hres
  clear hres
  go_wp2_with fail
  go_loopw [6] (fun x wr => ∃ (i : Nat) (g : Nat → Nat × Nat), i ≤ n ∧ x = .int .i64 ((i : Int) - 1) ∧ Sb w wr gf n g i ∧ substX muX suX quX n M i g = RES) (fun x _ => (intOf x + 1).toNat)
  case atStart => exact ⟨n, _, Nat.le_refl _, rfl, SB.out, RS0.out⟩
  case round =>
    obtain ⟨i, g, hi, rfl, hsb, hrs⟩ := hrel
    have SB := hid' hsb
    have RS := hid' hrs
    clear hsb hrs RS0
    cases i with
    | zero =>
      have RS2 : Hid (RES = some g) := RS.out.symm
      clear RS EL HS
      go_wp2
      refine bodyPost_ret (v := .tuple #[.slice (some ⟨gf, 0, none⟩) n n, .nilIface]) (by simp [results, Tryz.results111, go_sem]) rfl ?_
      exact ⟨SB.out.hb, .inl ⟨g, gf, RS2.out, rfl, SB.out.ge, SB.out.row, fun j hj => SB.out.iv j (Nat.zero_le _) hj⟩⟩
    | succ k =>
      have hkn : k < n := hi
      rw [show (((k + 1 : Nat) : Int) - 1) = (k : Int) by omega]
      have EW := hid' (EL.out.below SB.out.hb)
      obtain ⟨h1, -⟩ := EW.out.mat.head hkn
      obtain ⟨r1, r2, -, -⟩ := (EW.out.mat.rows k hkn).cell (j := n) (by omega)
      have ES : Hid (substX muX suX quX n M (k + 1) g = (restJ muX suX (M k) g (n - 1 - k) (k + 1) (M k n)).bind fun r => (quX r (M k k)).bind fun c => substX muX suX quX n M k (upd g k c)) := rfl
      have IR : Hid (ivW (M k n)) := EW.out.iv k n hkn (.inl (by omega)) (Nat.le_refl _)
      generalize M k n = mm at *
      obtain ⟨rl, rh⟩ := mm
      go_wp2_with fail
      obtain ⟨gt, hgt⟩ : ∃ gt, gt = wr.heap.size := ⟨_, rfl⟩
      have hgg : gf ≠ gt := by have := SB.out.row.lt; omega
      have BX0 : Hid (IBx (wr.alloc (Obj.cells #[.float .f64 rl, .float .f64 rh] 67)) gt rl rh) := by rw [hgt]; exact blk_new wr _
      have SB1 : Hid (Sb w (wr.alloc (Obj.cells #[.float .f64 rl, .float .f64 rh] 67)) gf n g (k + 1)) := SB.out.below ((Below.refl _ _).alloc (Nat.le_refl _) _)
      have hgw : w.heap.size ≤ gt := by rw [hgt]; exact SB.out.hb.size
      have RS1 : Hid ((restJ muX suX (M k) g (n - 1 - k) (k + 1) (rl, rh)).bind (fun r => (quX r (M k k)).bind fun c => substX muX suX quX n M k (upd g k c)) = RES) := ES.out.symm.trans RS.out
      rw [← hgt]
      clear hgt SB RS ES r1 r2 h1 EW
      generalize wr.alloc (Obj.cells #[.float .f64 rl, .float .f64 rh] 67) = wa at *
      generalize hrj : restJ muX suX (M k) g (n - 1 - k) (k + 1) (rl, rh) = RJ at *
      have RJ0 := hid' hrj
      clear hrj
      go_loopw [8, 9] (fun _ x wy => ∃ (j r1 r2 : Nat), k + 1 ≤ j ∧ j ≤ n ∧ x = .int .i64 (j : Int) ∧ Sb w wy gf n g (k + 1) ∧ IBx wy gt r1 r2 ∧ Iv r1 r2 ∧ restJ muX suX (M k) g (n - j) j (r1, r2) = RJ) (fun _ x _ => n - (intOf x).toNat)
      case atStart => exact ⟨k + 1, rl, rh, Nat.le_refl _, hkn, by go_num, SB1.out, BX0.out, IR.out, by rw [← RJ0.out, show n - (k + 1) = n - 1 - k by omega]⟩
      case round =>
        obtain ⟨j, ql, qh, hj1, hj2, rfl, hsb, hbx, hiv, hrj⟩ := hrel
        have SB := hid' hsb
        have BX := hid' hbx
        have IQ := hid' hiv
        have RJ1 := hid' hrj
        clear hsb hbx hiv hrj SB1 BX0 IR RJ0
        have EW := hid' (EL.out.below SB.out.hb)
        obtain ⟨h1, -⟩ := EW.out.mat.head hkn
        obtain ⟨t1, t2, t3, t4⟩ := blk2 BX.out
        by_cases hjm : j < n
        · obtain ⟨a1, a2, -, -⟩ := (EW.out.mat.rows k hkn).cell (j := j) (by omega)
          obtain ⟨b1, b2, -, -⟩ := SB.out.row.cell hjm
          have ia : Hid (ivW (M k j)) := EW.out.iv k j hkn (.inl (by omega)) hj2
          have ib : Hid (ivW (g j)) := SB.out.iv j (by omega) hjm
          have ET : Hid (restJ muX suX (M k) g (n - j) j (ql, qh) = (lpX muX suX (ql, qh) (M k j) (g j)).bind fun c => restJ muX suX (M k) g (n - (j + 1)) (j + 1) c) := by
            show _ = _
            rw [show n - j = (n - (j + 1)) + 1 by omega]; rfl
          generalize M k j = mm at *
          generalize g j = gj at *
          obtain ⟨bl_, bh⟩ := mm
          obtain ⟨cl, ch⟩ := gj
          have HLL : Hid (∀ W, BTt wr W → Calls Tryz.prog 158 #[.agg #[.float .f64 ql, .float .f64 qh], .agg #[.float .f64 bl_, .float .f64 bh], .agg #[.float .f64 cl, .float .f64 ch]] W fun ev w' => SvR A W (lpX muX suX (ql, qh) (bl_, bh) (cl, ch)) ev w') := fun W hW => lessProduct_any A W (HS.out.below (EW.out.hb.trans (hW.hb.mono EW.out.hb.size)) (Nat.le_refl _)) IQ.out ia.out ib.out
          go_wp2_with fail
          go_cut [8] (fun s8 wc => ∃ ul uh, Sb w wc gf n g (k + 1) ∧ IBx wc gt ul uh ∧ (lpX muX suX (ql, qh) (bl_, bh) (cl, ch) = some (ul, uh) ∧ s8 = .nilIface ∨ lpX muX suX (ql, qh) (bl_, bh) (cl, ch) = none ∧ s8 = .iface 229 (.pointer (some (A 8)))))
          case first =>
            have m1 : Hid (BTt wr wr) := ⟨Below.refl _ _⟩
            have iN : Hid (BTt wr wr.drew) := m1.out.drew
            go_region_with (first
              | (go_at_call 158; refine Calls.mono (HLL.out _ ?_) ?_; (exact iN.out); (intro e v0 hsv)
                 (unfold SvR at hsv); (obtain ⟨ul, uh, v, rfl, hbk, hor⟩ := hsv)
                 have HO := hid' hor
                 have iN : Hid (BTt wr v0) := iN.out.below hbk
                 have BX2 : Hid (IBx v0 gt ql qh) := blk_below BX.out iN.out.hb
                 obtain ⟨y1, y2, y3, y4⟩ := blk2 BX2.out
                 clear hbk hor))
            all_goals (go_wp2_with fail; go_meet; exact ⟨ul, uh, ((SB.out.below iN.out.hb).put hgw hgg _ _).put hgw hgg _ _, blk_store2 BX2.out, HO.out⟩)
          case rest =>
            obtain ⟨ul, uh, hsb, hbx, hor⟩ := hcut
            have SB := hid' hsb
            have BX := hid' hbx
            clear hsb hbx a1 a2 b1 b2 t1 t2 t3 t4 h1 EW HLL
            rcases hor with ⟨e1, rfl⟩ | ⟨e1, rfl⟩
            · have RJ2 : Hid (restJ muX suX (M k) g (n - (j + 1)) (j + 1) (ul, uh) = RJ) := by
                show _ = _
                rw [← RJ1.out, ET.out, e1]; rfl
              have IU : Hid (Iv ul uh) := lp_iv e1 IQ.out
              clear e1 RJ1 ET ia ib IQ
              go_wp2
              go_roundw
              case rel => exact ⟨j + 1, ul, uh, by omega, by omega, by go_num, SB.out, BX.out, IU.out, RJ2.out⟩
              case measure => simp [intOf]; omega
            · have RE2 : Hid (RES = none) := by
                show _ = _
                have : RJ = none := by rw [← RJ1.out, ET.out, e1]; rfl
                rw [← RS1.out, this]; rfl
              clear e1 RJ1 ET ia ib IQ
              go_wp2
              refine bodyPost_ret (v := .tuple #[.slice none 0 0, .iface 229 (.pointer (some (A 8)))]) (by simp [results, Tryz.results111, go_sem]) rfl ?_
              exact ⟨SB.out.hb, .inr ⟨RE2.out, rfl⟩⟩
        · have RJ2 : Hid (RJ = some (ql, qh)) := by
            show _ = _
            rw [← RJ1.out, show n - j = 0 by omega]; rfl
          have hjn : j = n := by omega
          have RS2 : Hid ((quX (ql, qh) (M k k)).bind (fun c => substX muX suX quX n M k (upd g k c)) = RES) := by
            show _ = _
            rw [← RS1.out, RJ2.out]; rfl
          obtain ⟨a1, a2, -, -⟩ := (EW.out.mat.rows k hkn).cell (j := k) (by omega)
          obtain ⟨b1, b2, b3, b4⟩ := SB.out.row.cell hkn
          have ia : Hid (ivW (M k k)) := EW.out.iv k k hkn (.inl (Nat.le_refl _)) (by omega)
          have nz : Hid (¬ memW (M k k) 0) := EW.out.nz k hkn hkn
          generalize M k k = mm at *
          obtain ⟨bl_, bh⟩ := mm
          generalize (g k).1 = gk1 at *
          generalize (g k).2 = gk2 at *
          have hh : holdsT (plT bl_) (plT bh) = false := by
            cases h : holdsT (plT bl_) (plT bh)
            · rfl
            · exact absurd ((holds_val (bl_, bh)).1 h) nz.out
          obtain ⟨lo, hi', p, q, f1, f2, hle, hw, hc⟩ := cornD IQ.out ia.out hh
          have HC := hid' hc
          have HW : Hid (∀ W, BTt wr W → Calls Tryz.prog 159 #[.float .f64 lo, .float .f64 hi'] W fun ev w' => SvR A W (quX (ql, qh) (bl_, bh)) ev w') := fun W hW => by
            rw [← hw]
            exact widened_any A lo hi' p q W (HS.out.below (EW.out.hb.trans (hW.hb.mono EW.out.hb.size)) (Nat.le_refl _)) f1 f2 hle
          have QIV : Hid (∀ t, quX (ql, qh) (bl_, bh) = some t → ivW t) := fun t h => ((corn_ends (f := quoN) (a := (ql, qh)) (b := (bl_, bh)) (g := fun i j => valW i / valW j) (br_quoW IQ.out ia.out nz.out)).1 t h).1
          clear hc hw f1 f2 hle hh nz ia IQ RJ1 RJ2 RS1
          go_wp2_with fail
          go_cut [8] (fun s8 wc => ∃ ul uh, (quX (ql, qh) (bl_, bh) = some (ul, uh) ∧ Sb w wc gf n (upd g k (ul, uh)) k ∧ s8 = .nilIface) ∨ (quX (ql, qh) (bl_, bh) = none ∧ Below w.heap.size w wc ∧ s8 = .iface 229 (.pointer (some (A 8)))))
          case first =>
            have m1 : Hid (BTt wr wr) := ⟨Below.refl _ _⟩
            have iN : Hid (BTt wr wr.drew) := m1.out.drew
            have FIN : Hid (∀ (v1 : World) (ul uh : Nat) (v : Value), BTt wr v1 → (quX (ql, qh) (bl_, bh) = some (ul, uh) ∧ v = .nilIface ∨ quX (ql, qh) (bl_, bh) = none ∧ v = .iface 229 (.pointer (some (A 8)))) → ∃ ul' uh', (quX (ql, qh) (bl_, bh) = some (ul', uh') ∧ Sb w ((v1.setCell ⟨gf, k * 2, none⟩ (.float .f64 ul)).setCell ⟨gf, k * 2 + 1, none⟩ (.float .f64 uh)) gf n (upd g k (ul', uh')) k ∧ v = .nilIface) ∨ (quX (ql, qh) (bl_, bh) = none ∧ Below w.heap.size w ((v1.setCell ⟨gf, k * 2, none⟩ (.float .f64 ul)).setCell ⟨gf, k * 2 + 1, none⟩ (.float .f64 uh)) ∧ v = .iface 229 (.pointer (some (A 8))))) := by
              intro v1 ul uh v hb hor
              have s := SB.out.below hb.hb
              rcases hor with ⟨e1, e2⟩ | ⟨e1, e2⟩
              · exact ⟨ul, uh, .inl ⟨e1, s.set hkn ul uh (QIV.out _ e1), e2⟩⟩
              · exact ⟨0, 0, .inr ⟨e1, (s.hb.setCell (by exact s.ge) _).setCell (by exact s.ge) _, e2⟩⟩
            go_region_with (first
              | (go_at_call 91; refine Calls.mono (HC.out _) ?_; (rintro e v0 ⟨rfl, hbk⟩)
                 have iN : Hid (BTt wr v0) := iN.out.below hbk
                 clear hbk)
              | (go_at_call 159; refine Calls.mono (HW.out _ ?_) ?_; (exact iN.out); (intro e v1 hsv)
                 (unfold SvR at hsv); (obtain ⟨ul, uh, v, rfl, hbk, hor⟩ := hsv)
                 have HO := hid' hor
                 have iN : Hid (BTt wr v1) := iN.out.below hbk
                 obtain ⟨y1, y2, y3, y4⟩ := (SB.out.below iN.out.hb).row.cell hkn
                 clear hbk hor))
            all_goals (go_wp2_with fail; go_meet; exact FIN.out _ _ _ _ iN.out HO.out)
          case rest =>
            obtain ⟨ul, uh, ⟨e1, hsb, rfl⟩ | ⟨e1, hbb, rfl⟩⟩ := hcut
            · have RS3 : Hid (substX muX suX quX n M k (upd g k (ul, uh)) = RES) := by
                show _ = _
                rw [← RS2.out, e1]; rfl
              have SB := hid' hsb
              clear e1 hsb RS2 HW HC QIV EW a1 a2 b1 b2 b3 b4 h1 t1 t2 t3 t4
              go_wp2
              go_roundw
              case rel => exact ⟨k, _, by omega, by go_num, SB.out, RS3.out⟩
              case measure => simp [intOf]
            · have RS3 : Hid (RES = none) := by
                show _ = _
                rw [← RS2.out, e1]; rfl
              have HB := hid' hbb
              clear e1 hbb RS2 HW HC QIV EW a1 a2 b1 b2 b3 b4 h1 t1 t2 t3 t4
              go_wp2
              refine bodyPost_ret (v := .tuple #[.slice none 0 0, .iface 229 (.pointer (some (A 8)))]) (by simp [results, Tryz.results111, go_sem]) rfl ?_
              exact ⟨HB.out, .inr ⟨RS3.out, rfl⟩⟩
end Go.Proofs.YtonhpkigoplmaaaGreatDoor
namespace Go.Proofs.YtonhpkigoplmaaaGreatDoor
open Go.RowKit Go.Extern Ieee
attribute [local go_sem] run_store_float

/-- The cells of a row's first n intervals. -/
def ivs (r : Nat → Nat × Nat) (n : Nat) : List Value := (List.range (n * 2)).map fun j => if j % 2 = 0 then .float .f64 (r (j / 2)).1 else .float .f64 (r (j / 2)).2

theorem ivs_len (r : Nat → Nat × Nat) (n : Nat) : (ivs r n).length = n * 2 := by unfold ivs; simp
theorem ivs_even (r : Nat → Nat × Nat) {n j : Nat} (h : j < n) : (ivs r n)[j * 2]? = some (.float .f64 (r j).1) := by
  unfold ivs
  rw [List.getElem?_map, List.getElem?_range (by omega)]
  have h1 : j * 2 % 2 = 0 := by omega
  have h2 : j * 2 / 2 = j := by omega
  simp [h1, h2]
theorem ivs_odd (r : Nat → Nat × Nat) {n j : Nat} (h : j < n) : (ivs r n)[j * 2 + 1]? = some (.float .f64 (r j).2) := by
  unfold ivs
  rw [List.getElem?_map, List.getElem?_range (by omega)]
  have h1 : (j * 2 + 1) % 2 = 1 := by omega
  have h2 : (j * 2 + 1) / 2 = j := by omega
  simp [h1, h2]
theorem ivs_push (r : Nat → Nat × Nat) (n : Nat) : ivs r (n + 1) = ivs r n ++ [.float .f64 (r n).1, .float .f64 (r n).2] := by
  unfold ivs
  rw [show (n + 1) * 2 = n * 2 + 1 + 1 by omega, List.range_succ, List.range_succ]
  have h1 : n * 2 % 2 = 0 := by omega
  have h2 : n * 2 / 2 = n := by omega
  have h3 : (n * 2 + 1) % 2 = 1 := by omega
  have h4 : (n * 2 + 1) / 2 = n := by omega
  simp [h1, h2, h3, h4]
theorem ivs_congr {r s : Nat → Nat × Nat} {n : Nat} (h : ∀ j, j < n → r j = s j) : ivs r n = ivs s n := by
  unfold ivs
  refine List.map_congr_left fun j hj => ?_
  have := List.mem_range.1 hj
  rw [h (j / 2) (by omega)]
theorem ivs_one {r : Nat → Nat × Nat} {n : Nat} : ∀ u ∈ ivs r n, u.oneCell' = true := by
  intro u hu
  unfold ivs at hu
  obtain ⟨i, _, rfl⟩ := List.mem_map.1 hu
  split <;> rfl

theorem RowI.of_owns {W : World} {base n : Nat} {v : Value} {r : Nat → Nat × Nat} (h : W.ownsRow base 67 2 v n (ivs r n)) (hn : n ≠ 0) : ∃ g c, v = .slice (some ⟨g, 0, none⟩) n c ∧ base ≤ g ∧ n ≤ c ∧ RowI W g n r := by
  obtain ⟨-, ⟨-, h0⟩ | ⟨g, cap, cur, e1, hb, h1, h2, h3, h4, h5⟩⟩ := h
  · exact absurd h0 hn
  · refine ⟨g, cap, e1, hb, h2, cur, h1, by rw [h4]; exact Nat.mul_le_mul_right 2 h2, fun j hj => ?_⟩
    have key : ∀ i, i < n * 2 → cur[i]? = (ivs r n)[i]? := by
      intro i hi
      rw [← h5, List.getElem?_take_of_lt hi, Array.getElem?_toList]
    exact ⟨(key _ (by omega)).trans (ivs_even r hj), (key _ (by omega)).trans (ivs_odd r hj)⟩

set_option maxHeartbeats 1000000 in
set_option maxRecDepth 100000 in
theorem cloneI_any (g n c : Nat) (r : Nat → Nat × Nat) (w : World) (h : RowI w g n r) (hn : n ≤ 100) :
    Calls Tryz.prog 153 #[.slice (some ⟨g, 0, none⟩) n c] w fun e w' => ∃ v, e = .returned v ∧ w'.ownsRow w.heap.size 67 2 v n (ivs r n) ∧ Below w.heap.size w w' := by
  obtain ⟨i0, hi, hz0, hz1, hz2⟩ := info_parts infoIv
  have hlen : (ivs r n).length = n * 2 := ivs_len r n
  have hcell : ∀ j u, (ivs r n)[j]? = some u → (w.alloc (.cells #[] 67)).cell? ((Addr.mk g 0 none).add j) = some u := by
    intro j u hj
    have hjn : j < n * 2 := by
      have := (List.getElem?_eq_some_iff.1 hj).1
      rwa [hlen] at this
    have ea : (Addr.mk g 0 none).add j = ⟨g, j, none⟩ := by
      by_cases hj : j = 0
      · subst hj; simp [Addr.add]
      · simp [Addr.add, hj]
    rw [ea, ((Below.refl _ w).alloc (Nat.le_refl _) _).cell (by exact h.lt)]
    obtain ⟨c1, c2, -, -⟩ := h.cell (j := j / 2) (by omega)
    rcases Nat.mod_two_eq_zero_or_one j with h0 | h0
    · have e1 : j = j / 2 * 2 := by omega
      have e2 := ivs_even r (n := n) (j := j / 2) (by omega)
      rw [← e1] at e2 c1
      rw [c1, ← e2, hj]
    · have e1 : j = j / 2 * 2 + 1 := by omega
      have e2 := ivs_odd r (n := n) (j := j / 2) (by omega)
      rw [← e1] at e2 c2
      rw [c2, ← e2, hj]
  have hnil := fun w => slice_nil (P := Tryz.prog) w 86 67 (some ⟨g, 0, none⟩) n c Tryz.underlying86
  have HC : Hid (∀ j u, (ivs r n)[j]? = some u → (w.alloc (.cells #[] 67)).cell? ((Addr.mk g 0 none).add j) = some u) := hcell
  clear h hcell
  go_enter Tryz.func153, Tryz.ntmps153
  go_wp2_with (first
    | (at_builtin; refine wpList_append_own _ rfl _ _ 86 rfl w.heap.size 67 i0 (.agg #[.float .f64 0, .float .f64 0]) 2 16 Tryz.underlying86 hi hz0 hz1 hz2 rfl (by decide) _ _ _ rfl (World.ownsRow_made _ _ _ (Nat.le_refl _) (by decide) (by simp)) ⟨g, 0, none⟩ n c (ivs r n) rfl (by rw [hlen]) HC.out ivs_one ?c3 ?c4 ?c5 ?_)
    | go_in)
  case c3 => unfold maxLen; omega
  case c4 => omega
  case c5 => simp
  · intro v' w1 hown' hgrow _
    have hb : Below w.heap.size w w1 := ((Below.refl _ w).alloc (Nat.le_refl _) _).grown hgrow (by simp) (fun k hk => by simp [Value.ownBlock] at hk; omega)
    have HO : Hid (w1.ownsRow w.heap.size 67 2 v' n (ivs r n)) := by
      show w1.ownsRow w.heap.size 67 2 v' n (ivs r n)
      simpa using hown'
    clear hown' hgrow
    go_wp2
    go_ret
    exact ⟨v', rfl, HO.out, hb⟩
end Go.Proofs.YtonhpkigoplmaaaGreatDoor
namespace Go.Proofs.YtonhpkigoplmaaaGreatDoor
open Go.RowKit Go.Extern Ieee
attribute [local go_sem] run_store_float

/-- append upon a list of one's own, as one step of a drawn region. -/
theorem step_append_mine {P : Program} {ops : Array Oper} {o : Oper} {a : Act} {w : World} {K : Act → World → Prop} {Q : Exit → Act → World → Prop} {E : Prop}
    (hg : o.guard = none) (s x : Operand) (t : TypeId) (hop : o.op = Op.call { callee := Callee.builtin Builtin.append, args := #[s, x], argTypes := #[t, t] })
    (base : Nat) (e : TypeId) (i : TypeInfo) (z : Value) (size bytes : Nat) (h1 : P.underlying t = some (.slice e)) (h2 : P.info? e = some i) (h3 : i.zero = some z) (h4 : i.size = size) (h5 : i.bytes = bytes) (h6 : z.cells.size = size) (h7 : 0 < size)
    (v : Value) (k : Nat) (xs : List Value) (hs : a.eval s = v) (hown : w.ownsRow base e size v k xs) (ad : Addr) (m c : Nat) (news : List Value) (hx : a.eval x = .slice (some ad) m c) (hn : news.length = m * size)
    (hc : ∀ j u, news[j]? = some u → w.cell? (ad.add j) = some u) (h1c : ∀ u ∈ news, u.oneCell' = true) (b1 : k + m ≤ maxLen) (b2 : (k + m) * bytes ≤ 140737488355328) (b3 : base ≤ w.heap.size)
    (hK : ∀ v' w', w'.ownsRow base e size v' (k + m) (xs ++ news) → w.grownBy w' v.ownBlock → K (a.put o.dst v') w') :
    if Region.wanted o (yielded ops a.tmps) = true then Oper.wp P o a w K Q else E := by
  have hw : Region.wanted o (yielded ops a.tmps) = true := by simp [Region.wanted, hg]
  rw [if_pos hw]
  obtain ⟨v', w', hrun, r1, r2, -⟩ := run_append_own (P := P) w base t o.type e i z size bytes h1 h2 h3 h4 h5 h6 h7 v k xs hown ad m c news hn hc h1c b1 b2 b3
  unfold Oper.wp
  simp [execOp, hop, resolve, invoke, builtin, hs, hx, hrun, Result.andThen]
  exact hK v' w' r1 r2

/-- Where equations stands: the first i rows are laid. -/
structure Eqs (w W : World) (gr n : Nat) (gb cap : Nat → Nat) (M : Nat → Nat → Nat × Nat) (i : Nat) : Prop where
  hb : Below w.heap.size w W
  blk : ∃ cur, W.heap[gr]? = some (.cells cur 86 (0, 0)) ∧ n ≤ cur.size ∧ ∀ j, j < n → cur[j]? = some (if j < i then .slice (some ⟨gb j, 0, none⟩) (n + 1) (cap j) else .slice none 0 0)
  gg : w.heap.size ≤ gr
  rows : ∀ j, j < i → RowI W (gb j) (n + 1) (M j)
  gs : ∀ j, j < i → w.heap.size ≤ gb j
  inj : ∀ j k, j < i → k < i → j ≠ k → gb j ≠ gb k
  caps : ∀ j, j < i → n + 1 ≤ cap j

theorem Eqs.cell {w W : World} {gr n : Nat} {gb cap : Nat → Nat} {M : Nat → Nat → Nat × Nat} {i : Nat} (s : Eqs w W gr n gb cap M i) {W1 : World} (hb : Below W.heap.size W W1) (hi : i < n) : W1.cell? ⟨gr, i, none⟩ = some (.slice none 0 0) ∧ W1.frozen? ⟨gr, i, none⟩ = false := by
  obtain ⟨cur, h1, h2, h3⟩ := s.blk
  have h1 := blk_below h1 hb
  refine ⟨by rw [cell_of_cur h1, h3 i hi, if_neg (Nat.lt_irrefl _)], by simp [World.frozen?, h1]⟩

theorem Eqs.step {w W : World} {gr n : Nat} {gb cap : Nat → Nat} {M : Nat → Nat → Nat × Nat} {i : Nat} (s : Eqs w W gr n gb cap M i) {W1 : World} {g' c' : Nat} (hb : Below W.heap.size W W1) (hi : i < n) (hr : RowI W1 g' (n + 1) (M i)) (hge : W.heap.size ≤ g') (hc : n + 1 ≤ c') : Eqs w (W1.setCell ⟨gr, i, none⟩ (.slice (some ⟨g', 0, none⟩) (n + 1) c')) gr n (upd gb i g') (upd cap i c') M (i + 1) := by
  obtain ⟨cur, h1, h2, h3⟩ := s.blk
  have hgr := lt_of_row h1
  have h1 := blk_below h1 hb
  have hneg : ∀ j, j < i → gb j ≠ gr := by
    intro j hj e
    obtain ⟨c2, k2, _⟩ := (s.rows j hj).below hb
    rw [e, h1] at k2
    cases k2
  refine ⟨(s.hb.trans (hb.mono s.hb.size)).setCell (by exact s.gg) _, ⟨_, blk_set_cur h1 _ _, by simpa using h2, fun j hj => ?_⟩, s.gg, fun j hj => ?_, fun j hj => ?_, fun j k hj hk hjk => ?_, fun j hj => ?_⟩
  · by_cases hji : j = i
    · subst hji
      rw [Array.getElem?_setIfInBounds_self_of_lt (by omega), if_pos (by omega), upd_same, upd_same]
    · rw [Array.getElem?_setIfInBounds_ne (fun e => hji e.symm), h3 j hj, upd_ne hji, upd_ne hji]
      by_cases hl : j < i
      · rw [if_pos hl, if_pos (by omega)]
      · rw [if_neg hl, if_neg (by omega)]
  · by_cases hji : j = i
    · subst hji; rw [upd_same]; exact hr.grown (grown_set _ gr _ _) (by omega)
    · rw [upd_ne hji]; exact ((s.rows j (by omega)).below hb).grown (grown_set _ gr _ _) (hneg j (by omega))
  · by_cases hji : j = i
    · subst hji; rw [upd_same]; exact Nat.le_trans s.hb.size hge
    · rw [upd_ne hji]; exact s.gs j (by omega)
  · by_cases hji : j = i
    · by_cases hki : k = i
      · omega
      · subst hji
        rw [upd_same, upd_ne hki]
        have := (s.rows k (by omega)).lt
        omega
    · by_cases hki : k = i
      · subst hki
        rw [upd_same, upd_ne hji]
        have := (s.rows j (by omega)).lt
        omega
      · rw [upd_ne hji, upd_ne hki]; exact s.inj j k (by omega) (by omega) hjk
  · by_cases hji : j = i
    · subst hji; rw [upd_same]; exact hc
    · rw [upd_ne hji]; exact s.caps j (by omega)

/-- The rows, each with its right side behind it. -/
def augW (n : Nat) (R : Nat → Nat → Nat × Nat) (B : Nat → Nat × Nat) : Nat → Nat → Nat × Nat := fun j x => if x < n then R j x else B j

theorem ivs_aug (n : Nat) (R : Nat → Nat → Nat × Nat) (B : Nat → Nat × Nat) (j : Nat) : ivs (augW n R B j) (n + 1) = ivs (R j) n ++ [.float .f64 (B j).1, .float .f64 (B j).2] := by
  rw [ivs_push]
  have h1 : augW n R B j n = B j := by unfold augW; rw [if_neg (Nat.lt_irrefl _)]
  have h2 : ivs (augW n R B j) n = ivs (R j) n := ivs_congr fun x hx => by unfold augW; rw [if_pos hx]
  rw [h1, h2]

theorem own_ge {W : World} {base k s n : Nat} {T : TypeId} {v : Value} {xs : List Value} (h : W.ownsRow base T s v n xs) (hk : v.ownBlock = some k) : base ≤ k := by
  obtain ⟨-, ⟨rfl, -⟩ | ⟨g, c, cur, rfl, hb, -⟩⟩ := h
  · simp [Value.ownBlock] at hk
  · simp [Value.ownBlock] at hk; omega
theorem two_of_blk {W : World} {g : Nat} {a b : Value} {T : TypeId} (h : W.heap[g]? = some (.cells #[a, b] T (0, 0))) : ∀ j u, ([a, b] : List Value)[j]? = some u → W.cell? ((Addr.mk g 0 none).add j) = some u := by
  intro j u hj
  match j, hj with
  | 0, hj => simp at hj; subst hj; simp [Addr.add, World.cell?, h]
  | 1, hj => simp at hj; subst hj; simp [Addr.add, World.cell?, h]

theorem infoSl : (Tryz.prog.info? 86).map (fun i => (i.zero, i.size, i.bytes)) = some (some (.slice none 0 0), 1, 24) := by kernel_rfl

theorem eqs_start {w W : World} {n : Nat} {gb cap : Nat → Nat} {M : Nat → Nat → Nat × Nat} (h : W.ownsRow w.heap.size 86 1 (.slice (some ⟨w.heap.size, 0, none⟩) n n) n (List.replicate n (.slice none 0 0))) (hb : Below w.heap.size w W) : Eqs w W w.heap.size n gb cap M 0 := by
  obtain ⟨-, h | ⟨g', c, cur, e1, hb', h1, h2, h3, h4, h5⟩⟩ := h
  · obtain ⟨h, -⟩ := h; cases h
  · cases e1
    rw [List.take_of_length_le (by simp; omega)] at h5
    refine ⟨hb, ⟨cur, h1, by omega, fun j hj => ?_⟩, hb', fun j hj => by omega, fun j hj => by omega, fun j k hj => by omega, fun j hj => by omega⟩
    rw [if_neg (by omega), ← Array.getElem?_toList, h5, List.getElem?_replicate, if_pos hj]

set_option maxHeartbeats 8000000 in
set_option maxRecDepth 100000 in
theorem equations_any (ga n ca gB cB : Nat) (gA cA : Nat → Nat) (R : Nat → Nat → Nat × Nat) (B : Nat → Nat × Nat) (w : World) (hn : n ≤ 90)
    (hA : ∀ i, i < n → w.cell? ⟨ga, i, none⟩ = some (.slice (some ⟨gA i, 0, none⟩) n (cA i))) (hR : ∀ i, i < n → RowI w (gA i) n (R i)) (hB : RowI w gB n B) :
    Calls Tryz.prog 107 #[.slice (some ⟨ga, 0, none⟩) n ca, .slice (some ⟨gB, 0, none⟩) n cB] w fun e w' => ∃ gr gb cap, e = .returned (.slice (some ⟨gr, 0, none⟩) n n) ∧ Eqs w w' gr n gb cap (augW n R B) n := by
  have HA := hid' hA
  have HR := hid' hR
  have HB := hid' hB
  clear hA hR hB
  obtain ⟨i1, hi1, hy0, hy1, hy2⟩ := info_parts infoIv
  obtain ⟨i0, hi, hz0, hz1, hz2⟩ := info_parts infoSl
  go_enter Tryz.func107, Tryz.ntmps107
  go_wp2_with (at_make; refine wpList_make_full _ rfl _ _ 85 rfl w.heap.size 86 i0 (.slice none 0 0) 1 Tryz.underlying85 hi hz0 hz1 _ _ _ _ n rfl rfl rfl rfl ?m1 ?m2 ?m3 ?_)
  case m1 => rw [hz2]; omega
  case m2 => unfold maxLen; omega
  case m3 => exact Nat.le_refl _
  intro w1 hown1 hgrow1
  have hb1 : Below w.heap.size w w1 := (Below.refl _ _).grown hgrow1 (Nat.le_refl _) (fun k hk => by cases hk)
  have EQ0 : Hid (Eqs w w1 w.heap.size n (fun _ => 0) (fun _ => 0) (augW n R B) 0) := eqs_start (by
    have h := hown1
    rw [toList_madeCells_one] at h
    exact h) hb1
  obtain ⟨gr, hgr⟩ : ∃ gr, gr = w.heap.size := ⟨_, rfl⟩
  have EQ : Hid (Eqs w w1 gr n (fun _ => 0) (fun _ => 0) (augW n R B) 0) := by rw [hgr]; exact EQ0
  rw [← hgr]
  clear hown1 hgrow1 hb1 EQ0 hgr hi hz0 hz1 hz2
  go_wp2_with fail
  go_loopw [12] (fun x wr => ∃ (i : Nat) (gb cap : Nat → Nat), i ≤ n ∧ x = .int .i64 (i : Int) ∧ Eqs w wr gr n gb cap (augW n R B) i) (fun x _ => n - (intOf x).toNat)
  case atStart => exact ⟨0, _, _, Nat.zero_le _, rfl, EQ.out⟩
  case round =>
    obtain ⟨i, gb, cap, hin, rfl, he⟩ := hrel
    have EQ := hid' he
    clear he
    by_cases hi : i < n
    · have hA := HA.out i hi
      have hlt := lt_of_cell hA
      rw [← EQ.out.hb.cell (by exact hlt)] at hA
      have RB : Hid (RowI wr gB n B) := HB.out.below EQ.out.hb
      obtain ⟨b1, b2, -, -⟩ := RB.out.cell hi
      have HCL : Hid (∀ W, BTt wr W → Calls Tryz.prog 153 #[.slice (some ⟨gA i, 0, none⟩) n (cA i)] W fun e w' => ∃ v, e = .returned v ∧ w'.ownsRow W.heap.size 67 2 v n (ivs (R i) n) ∧ Below W.heap.size W w') := fun W hW => cloneI_any _ _ _ _ _ (((HR.out i hi).below EQ.out.hb).below hW.hb) (by omega)
      have AUG := hid' (ivs_aug n R B i)
      clear hlt
      go_wp2_with fail
      have m1 : Hid (BTt wr wr) := ⟨Below.refl _ _⟩
      have hA2 := (m1.out.alloc (Obj.cells #[.float .f64 (B i).1, .float .f64 (B i).2] 67)).cell hA
      have iN : Hid (BTt wr wr.drew) := m1.out.drew
      go_region_law (first
        | (refine step_append_mine rfl _ _ 86 rfl wr.heap.size 67 i1 (.agg #[.float .f64 0, .float .f64 0]) 2 16 Tryz.underlying86 hi1 hy0 hy1 hy2 rfl (by decide) _ n (ivs (R i) n) rfl (OW.out.alloc _) ⟨_, 0, none⟩ 1 1 [.float .f64 (B i).1, .float .f64 (B i).2] rfl rfl (two_of_blk (blk_new _ _)) (by simp [Value.oneCell']) (by unfold maxLen; omega) (by omega) ((iN.out.alloc _).hb.size) ?_
           intro v' w1 hown' hgrow
           obtain ⟨g', c', rfl, hg', hc', hrow⟩ := RowI.of_owns (r := augW n R B i) (n := n + 1) (by rw [AUG.out]; exact hown') (by omega)
           have iN : Hid (BTt wr w1) := ⟨(iN.out.alloc _).hb.grown hgrow ((iN.out.alloc _).hb.size) (fun k hk => own_ge OW.out hk)⟩
           obtain ⟨s1, s2⟩ := EQ.out.cell iN.out.hb hi
           have ST := hid' (EQ.out.step iN.out.hb hi hrow hg' hc')
           clear hown' hgrow hrow OW)
        | (refine step_append_mine rfl _ _ 86 rfl wr.heap.size 67 i1 (.agg #[.float .f64 0, .float .f64 0]) 2 16 Tryz.underlying86 hi1 hy0 hy1 hy2 rfl (by decide) _ n (ivs (R i) n) rfl (OW.out) ⟨_, 0, none⟩ 1 1 [.float .f64 (B i).1, .float .f64 (B i).2] rfl rfl (two_of_blk KK.out) (by simp [Value.oneCell']) (by unfold maxLen; omega) (by omega) (iN.out.hb.size) ?_
           intro v' w1 hown' hgrow
           obtain ⟨g', c', rfl, hg', hc', hrow⟩ := RowI.of_owns (r := augW n R B i) (n := n + 1) (by rw [AUG.out]; exact hown') (by omega)
           have iN : Hid (BTt wr w1) := ⟨(iN.out).hb.grown hgrow (iN.out.hb.size) (fun k hk => own_ge OW.out hk)⟩
           obtain ⟨s1, s2⟩ := EQ.out.cell iN.out.hb hi
           have ST := hid' (EQ.out.step iN.out.hb hi hrow hg' hc')
           clear hown' hgrow hrow OW)
        | (rw [if_pos (by rfl)]
           go_simp
           go_at_call 153
           refine Calls.mono (HCL.out _ ?_) ?_
           · exact iN.out
           rintro e v0 ⟨v, rfl, hown, hbk⟩
           have OW : Hid (v0.ownsRow wr.heap.size 67 2 v n (ivs (R i) n)) := ownsRow_mono hown (Below.refl _ _) iN.out.hb.size
           have iN : Hid (BTt wr v0) := iN.out.below hbk
           obtain ⟨b1, b2, -, -⟩ := (RB.out.below iN.out.hb).cell hi
           clear hbk hown)
        | (rw [if_pos (by rfl)]
           go_simp
           go_at_call 153
           refine Calls.mono (HCL.out _ ?_) ?_
           · exact (m1.out.alloc _).drew
           rintro e v0 ⟨v, rfl, hown, hbk⟩
           have OW : Hid (v0.ownsRow wr.heap.size 67 2 v n (ivs (R i) n)) := ownsRow_mono hown (Below.refl _ _) (m1.out.alloc _).drew.hb.size
           have KK : Hid (v0.heap[wr.heap.size]? = some (.cells #[.float .f64 (B i).1, .float .f64 (B i).2] 67 (0, 0))) := blk_below (w := (wr.alloc (Obj.cells #[.float .f64 (B i).1, .float .f64 (B i).2] 67)).drew) (blk_new wr _) hbk
           have iN : Hid (BTt wr v0) := (m1.out.alloc _).drew.below hbk
           obtain ⟨b1, b2, -, -⟩ := (RB.out.below iN.out.hb).cell hi
           clear hbk hown))
      all_goals (go_wp2; go_roundw)
      all_goals first | exact ⟨i + 1, _, _, by omega, by go_num, ST.out⟩ | (simp [intOf]; omega)
    · have hin' : i = n := by omega
      subst hin'
      go_wp2
      go_ret
      exact ⟨gr, gb, cap, rfl, EQ.out⟩
end Go.Proofs.YtonhpkigoplmaaaGreatDoor
namespace Go.Proofs.YtonhpkigoplmaaaGreatDoor
open Go.RowKit Go.Extern Ieee
attribute [local go_sem] run_store_float

theorem El.of_eqs {w W : World} {gr n : Nat} {gb cap : Nat → Nat} {M : Nat → Nat → Nat × Nat} (s : Eqs w W gr n gb cap M n) (iv : ∀ y x, y < n → x ≤ n → ivW (M y x)) : El w W gr n gb cap M 0 := by
  obtain ⟨cur, h1, h2, h3⟩ := s.blk
  exact ⟨⟨⟨cur, h1, h2, fun j hj => by rw [h3 j hj, if_pos hj]⟩, s.rows, s.inj, s.caps⟩, s.hb, s.gg, s.gs, fun y x hy _ hx => iv y x hy hx, fun y hy => by omega⟩
theorem Eqs.below {w W W' : World} {gr n : Nat} {gb cap : Nat → Nat} {M : Nat → Nat → Nat × Nat} {i : Nat} (s : Eqs w W gr n gb cap M i) (hb : Below W.heap.size W W') : Eqs w W' gr n gb cap M i := by
  obtain ⟨cur, h1, h2⟩ := s.blk
  exact ⟨s.hb.trans (hb.mono s.hb.size), ⟨cur, blk_below h1 hb, h2⟩, s.gg, fun j hj => (s.rows j hj).below hb, s.gs, s.inj, s.caps⟩

set_option maxHeartbeats 8000000 in
set_option maxRecDepth 100000 in
theorem solve_bad (A : Nat → Addr) (ao bo : Option Addr) (m ca n cb : Nat) (ln : Nat → Nat) (w : World) (hS : Sents A w) (hh : Heads w ao m ln) (hm : m < 4611686018427387904) (hn : n < 4611686018427387904) (hl : ∀ i, i < m → ln i < 4611686018427387904) (hq : ¬ Square n m ln) :
    Calls Tryz.prog 54 #[.slice ao m ca, .slice bo n cb] w fun e w' => Below w.heap.size w w' ∧ e = .returned (.tuple #[.slice none 0 0, .iface 229 (.pointer (some (A 7)))]) := by
  have HI := hid' (isSquare_any ao m ca n ln w hh hm hn hl)
  have HQ := hid' hq
  have c7 : w.cell? ⟨7, 0, none⟩ = some (.iface 229 (.pointer (some (A 7)))) := hS.cell 7 (by omega)
  clear hS hh hl hq
  go_enter Tryz.func54, Tryz.ntmps54
  go_wp2_with fail
  refine Calls.mono HI.out ?_
  rintro e w1 ⟨rfl, ⟨hs, rfl⟩ | ⟨hs, rfl⟩⟩
  · exact absurd hs HQ.out
  · clear hs HQ HI
    go_wp2_with fail
    go_region
    all_goals go_wp2
    all_goals (refine bodyPost_ret (v := .tuple #[.slice none 0 0, .iface 229 (.pointer (some (A 7)))]) (by simp [results, Tryz.results54, go_sem]) rfl ?_; exact ⟨(Below.refl _ _).drew, rfl⟩)

set_option maxHeartbeats 16000000 in
set_option maxRecDepth 100000 in
theorem solve_good (A : Nat → Addr) (ga n ca gB cB : Nat) (gA cA : Nat → Nat) (R : Nat → Nat → Nat × Nat) (B : Nat → Nat × Nat) (w : World) (hS : Sents A w) (hn0 : n ≠ 0) (hn : n ≤ 4)
    (hA : ∀ i, i < n → w.cell? ⟨ga, i, none⟩ = some (.slice (some ⟨gA i, 0, none⟩) n (cA i))) (hR : ∀ i, i < n → RowI w (gA i) n (R i)) (hB : RowI w gB n B)
    (iv : ∀ y x, y < n → x ≤ n → ivW (augW n R B y x)) (RES : Option (Nat → Nat × Nat)) (hres : solveX muX suX quX pvX n (augW n R B) (fun _ => (0, 0)) = RES) :
    Calls Tryz.prog 54 #[.slice (some ⟨ga, 0, none⟩) n ca, .slice (some ⟨gB, 0, none⟩) n cB] w fun e w' => Below w.heap.size w w' ∧
      ((∃ y x, y < n ∧ x ≤ n ∧ outW (augW n R B y x) = true) ∧ e = .returned (.tuple #[.slice none 0 0, .iface 229 (.pointer (some (A 2)))]) ∨
       (∀ y x, y < n → x ≤ n → outW (augW n R B y x) = false) ∧ ((∃ g gf, RES = some g ∧ e = .returned (.tuple #[.slice (some ⟨gf, 0, none⟩) n n, .nilIface]) ∧ w.heap.size ≤ gf ∧ RowI w' gf n g ∧ ∀ j, j < n → ivW (g j)) ∨ RES = none ∧ e = .returned (.tuple #[.slice none 0 0, .iface 229 (.pointer (some (A 8)))]))) := by
  have HI := hid' (isSquare_any (some ⟨ga, 0, none⟩) n ca n (fun _ => n) w (.inr ⟨ga, rfl, fun i hi => ⟨_, _, hA i hi⟩⟩) (by omega) (by omega) (fun _ _ => by omega))
  have HQ : Hid (Square n n (fun _ => n)) := ⟨hn0, hn, rfl, fun _ _ => rfl⟩
  have HE := hid' (equations_any ga n ca gB cB gA cA R B w (by omega) hA hR hB)
  have HS := hid' hS
  have IV := hid' iv
  have RS := hid' hres
  generalize augW n R B = M at *
  clear hA hR hB hS iv hres
  go_enter Tryz.func54, Tryz.ntmps54
  go_wp2_with fail
  refine Calls.mono HI.out ?_
  rintro e w1 ⟨hw1, ⟨hs, rfl⟩ | ⟨hs, rfl⟩⟩ <;> subst w1
  · clear hs HQ HI
    go_wp2_with fail
    refine Calls.mono HE.out ?_
    rintro e w1 ⟨gr, gb, cap, rfl, he⟩
    have EQ := hid' he
    clear he HE
    go_wp2_with fail
    go_loopw [21] (fun x wr => ∃ i : Nat, i ≤ n ∧ x = .int .i64 (i : Int) ∧ Eqs w wr gr n gb cap M n ∧ ∀ y x, y < i → x ≤ n → outW (M y x) = false) (fun x _ => n - (intOf x).toNat)
    case atStart => exact ⟨0, Nat.zero_le _, rfl, EQ.out, fun y x hy => by omega⟩
    case round =>
      obtain ⟨i, hin, rfl, he, hno⟩ := hrel
      have EQ := hid' he
      have NO := hid' hno
      clear he hno
      by_cases hi : i < n
      · obtain ⟨cur, k1, k2, k3⟩ := EQ.out.blk
        have h1 : wr.cell? ⟨gr, i, none⟩ = some (.slice (some ⟨gb i, 0, none⟩) (n + 1) (cap i)) := by rw [cell_of_cur k1, k3 i hi, if_pos hi]
        have HF := hid' (containsFunc_any (gb i) (n + 1) (cap i) (M i) wr (EQ.out.rows i hi) (by omega) (fun j hj => IV.out i j hi (by omega)))
        have c5 : ∀ W, Below wr.heap.size wr W → W.cell? ⟨5, 0, none⟩ = some (.iface 229 (.pointer (some (A 2)))) := fun W hW => (HS.out.below (EQ.out.hb.trans (hW.mono EQ.out.hb.size)) (Nat.le_refl _)).cell 2 (by omega)
        have C5 := hid' c5
        clear k1 k2 k3 c5
        go_wp2_with fail
        refine Calls.mono HF.out ?_
        rintro e w2 ⟨hb, ⟨ho, rfl⟩ | ⟨ho, rfl⟩⟩
        · have c5 := C5.out w2 hb
          have HO : Hid (∃ y x, y < n ∧ x ≤ n ∧ outW (M y x) = true) := by
            obtain ⟨j, hj, h⟩ := ho
            exact ⟨i, j, hi, by omega, h⟩
          have HBB := hid' (EQ.out.below hb).hb
          clear HF C5 NO ho EQ hb h1
          go_wp2_with fail
          go_region
          all_goals go_wp2
          all_goals (refine bodyPost_ret (v := .tuple #[.slice none 0 0, .iface 229 (.pointer (some (A 2)))]) (by simp [results, Tryz.results54, go_sem]) rfl ?_; exact ⟨HBB.out.drew, .inl ⟨HO.out, rfl⟩⟩)
        · have NO2 : Hid (∀ y x, y < i + 1 → x ≤ n → outW (M y x) = false) := fun y x hy hx => by
            by_cases hyi : y = i
            · rw [hyi]; exact ho x (by omega)
            · exact NO.out y x (by omega) hx
          have EQ := hid' (EQ.out.below hb)
          clear HF C5 NO ho hb h1
          go_wp2
          go_roundw
          case rel => exact ⟨i + 1, by omega, by go_num, EQ.out, NO2.out⟩
          case measure => simp [intOf]; omega
      · have NO2 : Hid (∀ y x, y < n → x ≤ n → outW (M y x) = false) := fun y x hy hx => NO.out y x (by omega) hx
        have HEL := hid' (eliminate_any A gr n n gb cap M w wr HS.out (by omega) (Nat.le_refl _) (El.of_eqs EQ.out IV.out))
        clear NO EQ
        go_wp2_with fail
        refine Calls.mono HEL.out ?_
        rintro e w2 ⟨hb, ⟨gb2, cap2, M2, e1, rfl, hel⟩ | ⟨e1, rfl⟩⟩
        · have RS2 : Hid (substX muX suX quX n M2 n (fun _ => (0, 0)) = RES) := by
            show _ = _
            rw [← RS.out]
            unfold solveX
            rw [e1]; rfl
          have HSB := hid' (substitute_walk A gr n n gb2 cap2 M2 w w2 HS.out (by omega) hel RES RS2.out)
          have HB2 := hid' hb
          clear hb hel e1 HEL RS2
          go_wp2_with fail
          refine Calls.mono HSB.out ?_
          rintro e w3 ⟨hb3, ⟨g, gf, e2, rfl, hgf, hrow, hiv⟩ | ⟨e2, rfl⟩⟩
          · have HB3 := hid' (HB2.out.trans (hb3.mono HB2.out.size))
            have HGF : Hid (w.heap.size ≤ gf) := Nat.le_trans HB2.out.size hgf
            have HRW := hid' hrow
            have HIV := hid' hiv
            have E2 := hid' e2
            clear hb3 hgf hrow hiv e2 HSB
            go_wp2
            refine bodyPost_ret (v := .tuple #[.slice (some ⟨gf, 0, none⟩) n n, .nilIface]) (by simp [results, Tryz.results54, go_sem]) rfl ?_
            exact ⟨HB3.out, .inr ⟨NO2.out, .inl ⟨g, gf, E2.out, rfl, HGF.out, HRW.out, HIV.out⟩⟩⟩
          · have HB3 := hid' (HB2.out.trans (hb3.mono HB2.out.size))
            have E2 := hid' e2
            clear hb3 e2 HSB
            go_wp2
            refine bodyPost_ret (v := .tuple #[.slice none 0 0, .iface 229 (.pointer (some (A 8)))]) (by simp [results, Tryz.results54, go_sem]) rfl ?_
            exact ⟨HB3.out, .inr ⟨NO2.out, .inr ⟨E2.out, rfl⟩⟩⟩
        · have E2 : Hid (RES = none) := by
            show _ = _
            rw [← RS.out]
            unfold solveX
            rw [e1]; rfl
          have HB2 := hid' hb
          clear hb e1 HEL
          go_wp2
          refine bodyPost_ret (v := .tuple #[.slice none 0 0, .iface 229 (.pointer (some (A 8)))]) (by simp [results, Tryz.results54, go_sem]) rfl ?_
          exact ⟨HB2.out, .inr ⟨NO2.out, .inr ⟨E2.out, rfl⟩⟩⟩
  · exact absurd HQ.out hs
end Go.Proofs.YtonhpkigoplmaaaGreatDoor
namespace Go.Proofs.YtonhpkigoplmaaaGreatDoor
open Go.RowKit Go.Extern Ieee

/-- m rows: v is the list of their heads hv, each row a list of one's own. -/
structure Rws (b bl : Nat) (W : World) (v : Value) (m : Nat) (hv : Nat → Value) (ln : Nat → Nat) (R : Nat → Nat → Nat × Nat) : Prop where
  own : W.ownsRow b 86 1 v m ((List.range m).map hv)
  row : ∀ j, j < m → W.ownsRow b 67 2 (hv j) (ln j) (ivs (R j) (ln j))
  last : ∀ l, m = l + 1 → W.ownsRow bl 67 2 (hv l) (ln l) (ivs (R l) (ln l))
  low : ∀ i k, i + 1 < m → (hv i).ownBlock = some k → k < bl
  ge : b ≤ bl
  le : bl ≤ W.heap.size

theorem own_slice {W : World} {b s n : Nat} {T : TypeId} {v : Value} {xs : List Value} (h : W.ownsRow b T s v n xs) : ∃ po pc, v = .slice po n pc := by
  obtain ⟨-, ⟨rfl, rfl⟩ | ⟨g, c, cur, rfl, -⟩⟩ := h
  · exact ⟨_, _, rfl⟩
  · exact ⟨_, _, rfl⟩

theorem Rws.cells {b bl : Nat} {W : World} {v : Value} {m : Nat} {hv : Nat → Value} {ln : Nat → Nat} {R : Nat → Nat → Nat × Nat} (s : Rws b bl W v m hv ln R) (hm : m ≠ 0) : ∃ g c, v = .slice (some ⟨g, 0, none⟩) m c ∧ b ≤ g ∧ m ≤ c ∧ ∀ j, j < m → W.cell? ⟨g, j, none⟩ = some (hv j) := by
  obtain ⟨-, ⟨-, h0⟩ | ⟨g, c, cur, e1, hb, h1, h2, h3, h4, h5⟩⟩ := s.own
  · exact absurd h0 hm
  · refine ⟨g, c, e1, hb, h2, fun j hj => ?_⟩
    rw [cell_of_cur h1, ← Array.getElem?_toList, ← List.getElem?_take_of_lt (show j < m * 1 by omega), h5, List.getElem?_map, List.getElem?_range hj]
    rfl

theorem Rws.heads {b bl : Nat} {W : World} {m c : Nat} {ao : Option Addr} {hv : Nat → Value} {ln : Nat → Nat} {R : Nat → Nat → Nat × Nat} (s : Rws b bl W (.slice ao m c) m hv ln R) : Heads W ao m ln := by
  by_cases hm : m = 0
  · exact .inl hm
  · obtain ⟨g, c', e1, hb, hc, h⟩ := s.cells hm
    cases e1
    refine .inr ⟨g, rfl, fun i hi => ?_⟩
    obtain ⟨po, pc, e⟩ := own_slice (s.row i hi)
    exact ⟨po, pc, by rw [h i hi, e]⟩

theorem Rws.good {b bl : Nat} {W : World} {v : Value} {n : Nat} {hv : Nat → Value} {ln : Nat → Nat} {R : Nat → Nat → Nat × Nat} (s : Rws b bl W v n hv ln R) (hq : Square n n ln) :
    ∃ (ga ca : Nat) (gA cA : Nat → Nat), v = .slice (some ⟨ga, 0, none⟩) n ca ∧ (∀ i, i < n → W.cell? ⟨ga, i, none⟩ = some (.slice (some ⟨gA i, 0, none⟩) n (cA i))) ∧ ∀ i, i < n → RowI W (gA i) n (R i) := by
  obtain ⟨h0, h4, -, hl⟩ := hq
  obtain ⟨ga, ca, e1, hb, hc, h⟩ := s.cells h0
  have key : ∀ i, ∃ p : Nat × Nat, i < n → hv i = .slice (some ⟨p.1, 0, none⟩) n p.2 ∧ RowI W p.1 n (R i) := by
    intro i
    by_cases hi : i < n
    · have hr := s.row i hi
      rw [hl i hi] at hr
      obtain ⟨g, c, e, -, -, hrow⟩ := RowI.of_owns hr h0
      exact ⟨(g, c), fun _ => ⟨e, hrow⟩⟩
    · exact ⟨(0, 0), fun h => absurd h hi⟩
  refine ⟨ga, ca, fun i => (Classical.choose (key i)).1, fun i => (Classical.choose (key i)).2, e1, fun i hi => ?_, fun i hi => (Classical.choose_spec (key i) hi).2⟩
  rw [h i hi, (Classical.choose_spec (key i) hi).1]

theorem own_block {W : World} {b s n g : Nat} {T : TypeId} {u : Value} {xs : List Value} (h : W.ownsRow b T s u n xs) (hu : u.ownBlock = some g) : b ≤ g ∧ ∃ cur, W.heap[g]? = some (.cells cur T (0, 0)) := by
  obtain ⟨-, ⟨rfl, -⟩ | ⟨g', c, cur, rfl, hb, h1, -⟩⟩ := h
  · simp [Value.ownBlock] at hu
  · simp [Value.ownBlock] at hu
    subst hu
    exact ⟨hb, cur, h1⟩
theorem own_grown {W W' : World} {b s n : Nat} {k : Option Nat} {T : TypeId} {u : Value} {xs : List Value} (h : W.ownsRow b T s u n xs) (hg : W.grownBy W' k) (hne : ∀ j, u.ownBlock = some j → k ≠ some j) : W'.ownsRow b T s u n xs := by
  obtain ⟨hl, ⟨rfl, h0⟩ | ⟨g', c, cur, rfl, hb, h1, h2⟩⟩ := h
  · exact ⟨hl, .inl ⟨rfl, h0⟩⟩
  · refine ⟨hl, .inr ⟨g', c, cur, rfl, hb, ?_, h2⟩⟩
    rw [hg.block g' (lt_of_row h1) (fun e => hne g' (by simp [Value.ownBlock]) e.symm)]
    exact h1
theorem own_ne {W : World} {b b' s s' n n' g : Nat} {T T' : TypeId} {u u' : Value} {xs xs' : List Value} (h : W.ownsRow b T s u n xs) (h' : W.ownsRow b' T' s' u' n' xs') (ht : T ≠ T') (hu : u.ownBlock = some g) : u'.ownBlock ≠ some g := by
  intro hu'
  obtain ⟨-, c, e⟩ := own_block h hu
  obtain ⟨-, c', e'⟩ := own_block h' hu'
  rw [e] at e'
  cases e'
  exact ht rfl
theorem map_upd (hv : Nat → Value) (m : Nat) (x : Value) : (List.range (m + 1)).map (upd hv m x) = (List.range m).map hv ++ [x] := by
  rw [List.range_succ, List.map_append]
  congr 1
  · refine List.map_congr_left fun j hj => ?_
    have := List.mem_range.1 hj
    rw [upd_ne (by omega)]
  · simp [upd_same]

/-- A new row, nil as yet. -/
theorem Rws.push_nil {b bl : Nat} {W W' : World} {v v' : Value} {m : Nat} {hv : Nat → Value} {ln : Nat → Nat} {R : Nat → Nat → Nat × Nat} (s : Rws b bl W v m hv ln R) (hb : b ≤ W.heap.size) (ho : W'.ownsRow b 86 1 v' (m + 1) ((List.range m).map hv ++ [.slice none 0 0])) (hg : W.grownBy W' v.ownBlock) : Rws b W.heap.size W' v' (m + 1) (upd hv m (.slice none 0 0)) (upd ln m 0) R := by
  have hr : ∀ j, j < m → W'.ownsRow b 67 2 (hv j) (ln j) (ivs (R j) (ln j)) := fun j hj => own_grown (s.row j hj) hg fun k hk => own_ne (s.row j hj) s.own (by decide) hk
  have hnil : ∀ b', W'.ownsRow b' 67 2 (.slice none 0 0) 0 (ivs (R m) 0) := fun b' => ⟨rfl, .inl ⟨rfl, rfl⟩⟩
  refine ⟨by rw [map_upd]; exact ho, fun j hj => ?_, fun l hl => ?_, fun i k hi hk => ?_, hb, hg.size⟩
  · by_cases hjm : j = m
    · subst hjm; rw [upd_same, upd_same]; exact hnil b
    · rw [upd_ne hjm, upd_ne hjm]; exact hr j (by omega)
  · obtain rfl : l = m := by omega
    rw [upd_same, upd_same]; exact hnil _
  · rw [upd_ne (by omega)] at hk
    obtain ⟨-, c, e⟩ := own_block (s.row i (by omega)) hk
    exact lt_of_row e
end Go.Proofs.YtonhpkigoplmaaaGreatDoor
