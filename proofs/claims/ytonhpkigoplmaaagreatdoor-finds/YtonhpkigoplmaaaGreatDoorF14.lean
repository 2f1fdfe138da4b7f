/-
  SrchC, PolyE, SrchD, SrchE, SrchF, RootW, RootF, LoopB, PolyP, RtsN.
-/
import Derived.Shelf.Abstract
import Derived.WalkKit
import Derived.OwnWalkIn
import Derived.TacticsInMore
import Derived.Test.YtonhpkigoplmaaaGreatDoorF13
import Derived.Test.YtonhpkigoplmaaaGreatDoorF12
import Derived.Test.YtonhpkigoplmaaaGreatDoorF11
namespace Go.Proofs.YtonhpkigoplmaaaGreatDoor
open Go.RowKit Go.Shelf
attribute [local go_sem] run_store_float
attribute [local go_sem] Oper.semAt_some

set_option maxHeartbeats 16000000 in
set_option maxRecDepth 100000 in
theorem search_leaf (po : Option Addr) (n pc l : Nat) (dep : Int) (xl xh v1 v2 m : Nat) (P : Bool) (w : World)
    (hH : ∀ W, Below w.heap.size w W → Calls Tryz.prog 134 #[.slice po n pc, .agg #[.float .f64 xl, .float .f64 xh]] W fun e w' => ∃ v, e = .returned (.tuple #[.agg #[.float .f64 v1, .float .f64 v2], v]) ∧ (v = .nilIface ∧ (∀ W, Calls Tryz.prog 93 #[.agg #[.float .f64 v1, .float .f64 v2]] W fun e w' => e = .returned (.bool true) ∧ Below W.heap.size W w') ∨ (∃ p, v = .iface 229 p) ∨ (∃ p, v = .iface 136 p)) ∧ Below W.heap.size W w')
    (hm : ∀ W, Calls Tryz.prog 152 #[.agg #[.float .f64 xl, .float .f64 xh]] W fun e w' => e = .returned (.float .f64 m) ∧ Below W.heap.size W w')
    (hp : ∀ W, Calls Tryz.prog 112 #[.float .f64 m] W fun e w' => e = .returned (.bool P) ∧ w' = W)
    (hL : dep = 0 ∨ (dep ≠ 0 ∧ P = false) ∨ (dep ≠ 0 ∧ P = true ∧ FloatKind.f64.format.order m xl = some .lt) ∨ (dep ≠ 0 ∧ P = true ∧ FloatKind.f64.format.order m xl = some .eq) ∨ (dep ≠ 0 ∧ P = true ∧ FloatKind.f64.format.order m xl = some .gt ∧ FloatKind.f64.format.order m xh = some .gt) ∨ (dep ≠ 0 ∧ P = true ∧ FloatKind.f64.format.order m xl = some .gt ∧ FloatKind.f64.format.order m xh = some .eq)) (R : Ending → World → Prop)
    (hY : ∀ W, Below w.heap.size w W → YieldAt Fence.wide 2 Tryz.prog l #[.agg #[.float .f64 xl, .float .f64 xh]] W fun e w' => ∃ b, e = .returned (.bool b) ∧ R e w') :
    Calls Tryz.prog 105 #[.slice po n pc, .agg #[.float .f64 xl, .float .f64 xh], .int .i64 dep, .func (.yield l) #[] #[]] w R := by
  refine (callsIn_wide (n := 3)).1 ?_
  refine callsIn_of_wp Tryz.func105 rfl trivial ?_ rfl
  simp only [Tryz.ntmps105, List.size_toArray, List.length_cons, List.length_nil, Nat.reduceAdd, Nat.reduceSub, Array.replicate_succ, Array.replicate_zero, List.push_toArray, List.append_toArray, List.nil_append, List.cons_append]
  have HH := hid hH
  have HM := hid hm
  have HP := hid hp
  have HY := hid hY
  have HL := hid hL
  clear hH hm hY hp hL
  gi_wp2_with fail
  have B4 := blk_new w (Obj.cells #[.float .f64 xl, .float .f64 xh] 67)
  have hW : Below w.heap.size w (w.alloc (Obj.cells #[.float .f64 xl, .float .f64 xh] 67)) := (Below.refl _ _).alloc (Nat.le_refl _) _
  generalize (w.alloc (Obj.cells #[.float .f64 xl, .float .f64 xh] 67)) = W1 at *
  refine ⟨trivial, ?_⟩
  refine CallsIn.mono (callsIn_wide.2 (HH.out _ hW)) ?_
  rintro e w1 ⟨v, rfl, hv, hb1⟩
  have HB : Hid (Below w.heap.size w (w1.alloc (Obj.cells #[.float .f64 v1, .float .f64 v2] 67))) := (hW.trans (hb1.mono hW.size)).alloc (Nat.le_trans hW.size hb1.size) _
  have HK : Hid ((w1.alloc (Obj.cells #[.float .f64 v1, .float .f64 v2] 67)).heap[w.heap.size]? = some (.cells #[.float .f64 xl, .float .f64 xh] 67 (0, 0))) := blk_old (blk_below B4 hb1) _
  obtain ⟨x0, x1, -, -⟩ := blk2 (blk_below B4 hb1)
  have lx := lt_of_row (blk_below B4 hb1)
  clear B4 hW hb1 HH
  rcases hv with ⟨rfl, hz⟩ | ⟨p, rfl⟩ | ⟨p, rfl⟩
  · have HZ := hid hz
    clear hz
    gi_wp2_with fail
    clear x0 x1 lx
    generalize (w1.alloc (Obj.cells #[.float .f64 v1, .float .f64 v2] 67)) = W2 at *
    refine ⟨trivial, ?_⟩
    refine CallsIn.mono (callsIn_wide.2 (HZ.out _)) ?_
    rintro e w2 ⟨rfl, hb2⟩
    have HB2 : Hid (Below w.heap.size w w2) := HB.out.trans (hb2.mono HB.out.size)
    have HK2 : Hid (w2.heap[w.heap.size]? = some (.cells #[.float .f64 xl, .float .f64 xh] 67 (0, 0))) := blk_below HK.out hb2
    obtain ⟨y0, y1, -, -⟩ := blk2 HK2.out
    clear HB HK HZ hb2
    gi_wp2_with fail
    refine ⟨trivial, ?_⟩
    refine CallsIn.mono (callsIn_wide.2 (HM.out _)) ?_
    rintro e w3 ⟨rfl, hb3⟩
    have HB3 : Hid (Below w.heap.size w w3) := HB2.out.trans (hb3.mono HB2.out.size)
    obtain ⟨z0, z1, -, -⟩ := blk2 (blk_below HK2.out hb3)
    obtain ⟨fn, tmps, assign, body, hy, hR⟩ := HY.out _ HB3.out
    clear HB2 HK2 HM hb3 y0 y1 HY
    have hL := HL.out
    clear HL
    rcases hL with rfl | ⟨hd, rfl⟩ | ⟨hd, rfl, o1⟩ | ⟨hd, rfl, o1⟩ | ⟨hd, rfl, o1, o2⟩ | ⟨hd, rfl, o1, o2⟩
    · clear HP
      gi_wp2_with fail
      refine ⟨trivial, ?_⟩
      gi_wp2_with fail
      refine hR.mono ?_
      rintro e w5 ⟨b, rfl, hr⟩
      clear hR hy
      gi_wp2_with fail
      exact hr
    all_goals
      gi_wp2_with fail
      refine ⟨trivial, ?_⟩
      refine CallsIn.mono (callsIn_wide.2 (HP.out _)) ?_
      rintro e w4 ⟨rfl, rfl⟩
      clear HP
      gi_wp2_with fail
      refine hR.mono ?_
      rintro e w5 ⟨b, rfl, hr⟩
      clear hR hy
      gi_wp2_with fail
      exact hr
  · have HB2 := HB
    have HK2 := HK
    clear HB HK
    gi_wp2_with fail
    refine ⟨trivial, ?_⟩
    gi_wp2_with fail
    clear x0 x1 lx
    generalize (w1.alloc (Obj.cells #[.float .f64 v1, .float .f64 v2] 67)) = w2 at *
    obtain ⟨y0, y1, -, -⟩ := blk2 HK2.out
    refine ⟨trivial, ?_⟩
    refine CallsIn.mono (callsIn_wide.2 (HM.out _)) ?_
    rintro e w3 ⟨rfl, hb3⟩
    have HB3 : Hid (Below w.heap.size w w3) := HB2.out.trans (hb3.mono HB2.out.size)
    obtain ⟨z0, z1, -, -⟩ := blk2 (blk_below HK2.out hb3)
    obtain ⟨fn, tmps, assign, body, hy, hR⟩ := HY.out _ HB3.out
    clear HB2 HK2 HM hb3 y0 y1 HY
    have hL := HL.out
    clear HL
    rcases hL with rfl | ⟨hd, rfl⟩ | ⟨hd, rfl, o1⟩ | ⟨hd, rfl, o1⟩ | ⟨hd, rfl, o1, o2⟩ | ⟨hd, rfl, o1, o2⟩
    · clear HP
      gi_wp2_with fail
      refine ⟨trivial, ?_⟩
      gi_wp2_with fail
      refine hR.mono ?_
      rintro e w5 ⟨b, rfl, hr⟩
      clear hR hy
      gi_wp2_with fail
      exact hr
    all_goals
      gi_wp2_with fail
      refine ⟨trivial, ?_⟩
      refine CallsIn.mono (callsIn_wide.2 (HP.out _)) ?_
      rintro e w4 ⟨rfl, rfl⟩
      clear HP
      gi_wp2_with fail
      refine hR.mono ?_
      rintro e w5 ⟨b, rfl, hr⟩
      clear hR hy
      gi_wp2_with fail
      exact hr
  · have HB2 := HB
    have HK2 := HK
    clear HB HK
    gi_wp2_with fail
    refine ⟨trivial, ?_⟩
    gi_wp2_with fail
    clear x0 x1 lx
    generalize (w1.alloc (Obj.cells #[.float .f64 v1, .float .f64 v2] 67)) = w2 at *
    obtain ⟨y0, y1, -, -⟩ := blk2 HK2.out
    refine ⟨trivial, ?_⟩
    refine CallsIn.mono (callsIn_wide.2 (HM.out _)) ?_
    rintro e w3 ⟨rfl, hb3⟩
    have HB3 : Hid (Below w.heap.size w w3) := HB2.out.trans (hb3.mono HB2.out.size)
    obtain ⟨z0, z1, -, -⟩ := blk2 (blk_below HK2.out hb3)
    obtain ⟨fn, tmps, assign, body, hy, hR⟩ := HY.out _ HB3.out
    clear HB2 HK2 HM hb3 y0 y1 HY
    have hL := HL.out
    clear HL
    rcases hL with rfl | ⟨hd, rfl⟩ | ⟨hd, rfl, o1⟩ | ⟨hd, rfl, o1⟩ | ⟨hd, rfl, o1, o2⟩ | ⟨hd, rfl, o1, o2⟩
    · clear HP
      gi_wp2_with fail
      refine ⟨trivial, ?_⟩
      gi_wp2_with fail
      refine hR.mono ?_
      rintro e w5 ⟨b, rfl, hr⟩
      clear hR hy
      gi_wp2_with fail
      exact hr
    all_goals
      gi_wp2_with fail
      refine ⟨trivial, ?_⟩
      refine CallsIn.mono (callsIn_wide.2 (HP.out _)) ?_
      rintro e w4 ⟨rfl, rfl⟩
      clear HP
      gi_wp2_with fail
      refine hR.mono ?_
      rintro e w5 ⟨b, rfl, hr⟩
      clear hR hy
      gi_wp2_with fail
      exact hr
end Go.Proofs.YtonhpkigoplmaaaGreatDoor
namespace Go.Proofs.YtonhpkigoplmaaaGreatDoor
open Go.RowKit Go.Extern
attribute [local go_sem] run_store_float

end Go.Proofs.YtonhpkigoplmaaaGreatDoor
namespace Go.Proofs.YtonhpkigoplmaaaGreatDoor
open Go.RowKit Go.Extern Ieee

theorem holdsF_any {l h : Nat} (j : Iv l h) (W : World) : Calls Tryz.prog 93 #[.agg #[.float .f64 l, .float .f64 h]] W fun e w' => e = .returned (.bool (holdsT (plT l) (plT h))) ∧ Below W.heap.size W w' := by
  obtain ⟨o1, ho1, hl1, hg1⟩ := sgn_order j
  obtain ⟨o2, ho2, hl2, hg2⟩ := sgn_order j.high
  have hh : (o1 != .gt && o2 != .lt) = holdsT (plT l) (plT h) := by
    have x1 : (o1 != .gt) = decide (sgnI (plT l).1 (plT l).2.1 ≤ 0) := by
      by_cases h : 0 < sgnI (plT l).1 (plT l).2.1
      · rw [hg1.2 h, decide_eq_false (by omega)]; rfl
      · rw [decide_eq_true (show sgnI (plT l).1 (plT l).2.1 ≤ 0 by omega)]
        cases o1 with
        | lt => rfl
        | eq => rfl
        | gt => exact absurd (hg1.1 rfl) h
    have x2 : (o2 != .lt) = decide (0 ≤ sgnI (plT h).1 (plT h).2.1) := by
      by_cases hc : sgnI (plT h).1 (plT h).2.1 < 0
      · rw [hl2.2 hc, decide_eq_false (by omega)]; rfl
      · rw [decide_eq_true (show 0 ≤ sgnI (plT h).1 (plT h).2.1 by omega)]
        cases o2 with
        | lt => exact absurd (hl2.1 rfl) hc
        | eq => rfl
        | gt => rfl
    rw [x1, x2]
    unfold holdsT
    rfl
  have := holds_any l h o1 o2 W ho1 ho2
  rwa [hh] at this

theorem order_pos {a b : Nat} (i : Iv a a) (j : Iv b b) : ∃ o, FloatKind.f64.format.order a b = some o ∧ (o = .lt ↔ posF a < posF b) ∧ (o = .gt ↔ posF b < posF a) := by
  have ho : double.order a b = _ := order_kw i.f1 j.f1
  have h1 := kw_lt i.f1 j.f1 i.q1 j.q1
  have h2 := kw_lt j.f1 i.f1 j.q1 i.q1
  refine ⟨_, ho, ?_, ?_⟩
  · rw [← h1, Int.compare_eq_lt]
  · rw [← h2, Int.compare_eq_gt]

/-- horner of right numbers is what the document says. -/
theorem hornF_any (A : Nat → Addr) (ao : Option Addr) (n c : Nat) (ps : Nat → Nat) (xl xh : Nat) (w : World) (hS : Sents A w) (h : FlV w ao n ps) (hp : ∀ i, i < n → ps i < 18446744073709551616) (hr : rightN ps n = 0) (ix : Iv xl xh) :
    Calls Tryz.prog 134 #[.slice ao n c, .agg #[.float .f64 xl, .float .f64 xh]] w fun ev w' => OpR A w (evalN ps n (plT xl) (plT xh)).1 (evalN ps n (plT xl) (plT xh)).2.1 (evalN ps n (plT xl) (plT xh)).2.2.1 (evalN ps n (plT xl) (plT xh)).2.2.2 ev w' := by
  obtain ⟨hn1, hn9, hpl⟩ := right_plain hr
  obtain ⟨m, rfl⟩ : ∃ m, n = m + 1 := ⟨n - 1, by omega⟩
  have hk := hornK (xl := xl) (xh := xh) hr hp
  obtain ⟨r, e⟩ : ∃ r, r = evalN ps (m + 1) (plT xl) (plT xh) := ⟨_, rfl⟩
  have e2 : r = (fun t => hornN ps (m + 1) (plT xl) (plT xh) (m - t)) 0 := by rw [e]; unfold evalN; rw [if_neg (by omega)]; rfl
  rw [← e]
  clear e
  generalize (fun t => hornN ps (m + 1) (plT xl) (plT xh) (m - t)) = H at *
  subst e2
  obtain ⟨g, off, rfl, hg, hc⟩ := h.resolve_left (by omega)
  exact horner_any A g off m c ps xl xh w hS hg hc (by omega) (fun i hi W => pointF_any (ps i) W (hp i hi) (hpl i hi)) (fun i hi => iv_point (hp i hi) (hpl i hi)) ix H hk
end Go.Proofs.YtonhpkigoplmaaaGreatDoor
namespace Go.Proofs.YtonhpkigoplmaaaGreatDoor
open Go.RowKit Go.Shelf


theorem search_step (A : Nat → Addr) (lid : Nat) {ps : Nat → Nat} {po : Option Addr} {n pc : Nat} (w0 : World) (hS : Sents A w0) (hF : FlV w0 po n ps) (hp : ∀ i, i < n → ps i < 18446744073709551616) (hr : rightN ps n = 0) (J Jx : List (Nat × Nat) → World → Prop) (N : Nat)
    (hJ : ∀ pre W W', J pre W → Below W.heap.size W W' → J pre W')
    (hY : ∀ pre x W, J pre W → pre.length < N → YieldAt Fence.wide 2 Tryz.prog lid #[.agg #[.float .f64 x.1, .float .f64 x.2]] W fun e W' => (e = .returned (.bool true) ∧ J (pre ++ [x]) W' ∧ KeepC W W' ∧ Below w0.heap.size W W') ∨ (e = .returned (.bool false) ∧ Jx (pre ++ [x]) W'))
    (d : Nat) (hd : d ≤ 8) (xl xh : Nat) (i : Iv xl xh) (pre : List (Nat × Nat)) (W : World) (hW : Below w0.heap.size w0 W) (hj : J pre W) (hN : pre.length + (pieceN ps n d xl xh).length ≤ N)
    (rec : ∀ d', d = d' + 1 → ∀ (xl xh : Nat) (_ : Iv xl xh) (pre : List (Nat × Nat)) (W : World), Below w0.heap.size w0 W → J pre W → pre.length + (pieceN ps n d' xl xh).length ≤ N → Calls Tryz.prog 105 #[.slice po n pc, .agg #[.float .f64 xl, .float .f64 xh], .int .i64 (d' : Int), .func (.yield lid) #[] #[]] W fun e w' => (e = .returned (.bool true) ∧ J (pre ++ pieceN ps n d' xl xh) w' ∧ KeepC W w' ∧ Below w0.heap.size w0 w') ∨ (e = .returned (.bool false) ∧ ∃ q, q <+: pieceN ps n d' xl xh ∧ Jx (pre ++ q) w')) :
    Calls Tryz.prog 105 #[.slice po n pc, .agg #[.float .f64 xl, .float .f64 xh], .int .i64 (d : Int), .func (.yield lid) #[] #[]] W fun e w' => (e = .returned (.bool true) ∧ J (pre ++ pieceN ps n d xl xh) w' ∧ KeepC W w' ∧ Below w0.heap.size w0 w') ∨ (e = .returned (.bool false) ∧ ∃ q, q <+: pieceN ps n d xl xh ∧ Jx (pre ++ q) w') := by
  have tr : ∀ W', Below W.heap.size W W' → Below w0.heap.size w0 W' := fun W' hb => hW.trans (hb.mono hW.size)
  have iV := eval_iv (x1 := plT xl) (x2 := plT xh) hr hp
  have hO := fun (W' : World) (hb : Below W.heap.size W W') => hornF_any A po n pc ps xl xh W' (hS.below (tr W' hb) (Nat.le_refl _)) (hF.below (tr W' hb)) hp hr i
  by_cases hdr : dropN ps n xl xh = true
  · rw [pieceN_drop hdr]
    unfold dropN at hdr
    rw [Bool.and_eq_true, decide_eq_true_eq, Bool.not_eq_true'] at hdr
    refine (search_drop po n pc _ xl xh (evalN ps n (plT xl) (plT xh)).1 (evalN ps n (plT xl) (plT xh)).2.1 _ W (fun W' hb => ?_) (fun W' => ?_)).mono ?_
    · refine (hO W' hb).mono ?_
      intro e w' h
      unfold OpR at h
      obtain ⟨v, rfl, hE, hb'⟩ := h
      rw [hdr.1] at hE
      exact ⟨by rw [hE.zero], hb'⟩
    · have := holdsF_any iV W'
      rwa [hdr.2] at this
    · rintro e w' ⟨rfl, hb⟩
      exact .inl ⟨rfl, by rw [List.append_nil]; exact hJ _ _ _ hj hb, KeepC.of_below hb, tr _ hb⟩
  · have hH : ∀ W', Below W.heap.size W W' → Calls Tryz.prog 134 #[.slice po n pc, .agg #[.float .f64 xl, .float .f64 xh]] W' fun e w' => ∃ v, e = .returned (.tuple #[.agg #[.float .f64 (evalN ps n (plT xl) (plT xh)).1, .float .f64 (evalN ps n (plT xl) (plT xh)).2.1], v]) ∧ (v = .nilIface ∧ (∀ W, Calls Tryz.prog 93 #[.agg #[.float .f64 (evalN ps n (plT xl) (plT xh)).1, .float .f64 (evalN ps n (plT xl) (plT xh)).2.1]] W fun e w' => e = .returned (.bool true) ∧ Below W.heap.size W w') ∨ (∃ p, v = .iface 229 p) ∨ (∃ p, v = .iface 136 p)) ∧ Below W'.heap.size W' w' := by
      intro W' hb
      refine (hO W' hb).mono ?_
      intro e w' h
      unfold OpR at h
      obtain ⟨v, rfl, hE, hb'⟩ := h
      refine ⟨v, rfl, ?_, hb'⟩
      by_cases hc : (evalN ps n (plT xl) (plT xh)).2.2.1 = 0
      · rw [hc] at hE
        refine .inl ⟨hE.zero, fun W2 => ?_⟩
        have := holdsF_any iV W2
        cases hh : holdsT (plT (evalN ps n (plT xl) (plT xh)).1) (plT (evalN ps n (plT xl) (plT xh)).2.1)
        · exfalso; apply hdr; unfold dropN; rw [hh, decide_eq_true hc]; rfl
        · rwa [hh] at this
      · generalize (evalN ps n (plT xl) (plT xh)).2.2.1 = k at *
        generalize (evalN ps n (plT xl) (plT xh)).2.2.2 = s at *
        rcases hE with ⟨rfl, rfl, rfl⟩ | ⟨k, h, rfl, rfl, rfl⟩ | ⟨k, h, b, hh, rfl, rfl⟩
        · exact absurd rfl hc
        · exact .inr (.inl ⟨_, rfl⟩)
        · exact .inr (.inr ⟨_, rfl⟩)
    have hm := fun W' : World => middle_any i W'
    have hml : midW xl xh < 18446744073709551616 := (fd_lt _ _).1
    have hpl : ∀ W', Calls Tryz.prog 112 #[.float .f64 (midW xl xh)] W' fun e w' => e = .returned (.bool (midT xl xh).2) ∧ w' = W' := fun W' => by
      have := isPlain_any (midW xl xh) W' hml
      rwa [(mid_same i).1] at this
    by_cases hleaf : d = 0 ∨ ¬ cutN xl xh = true
    · rw [pieceN_leaf hdr hleaf] at hN ⊢
      refine search_leaf po n pc lid (d : Int) xl xh _ _ (midW xl xh) (midT xl xh).2 W hH hm hpl ?_ _ (fun W' hb => ?_)
      · by_cases h0 : d = 0
        · left; omega
        · right
          have hd0 : (d : Int) ≠ 0 := by omega
          have hc := hleaf.resolve_left h0
          cases hP : (midT xl xh).2
          · exact .inl ⟨hd0, rfl⟩
          · right
            obtain ⟨e, f⟩ := (mid_same i).2 hP
            have im : Iv (midW xl xh) (midW xl xh) := by
              have a := (mid_same i).1
              rw [hP] at a
              exact ⟨f.lt, f.lt, f.nz, f.nz, plT_some a, plT_some a, Int.le_refl _⟩
            obtain ⟨o1, a1, b1, c1⟩ := order_pos im i.low
            obtain ⟨o2, a2, b2, c2⟩ := order_pos im i.high
            cases o1 with
            | lt => exact .inl ⟨hd0, rfl, a1⟩
            | eq => exact .inr (.inl ⟨hd0, rfl, a1⟩)
            | gt =>
              cases o2 with
              | gt => exact .inr (.inr (.inl ⟨hd0, rfl, a1, a2⟩))
              | eq => exact .inr (.inr (.inr ⟨hd0, rfl, a1, a2⟩))
              | lt =>
                exfalso; apply hc
                unfold cutN
                rw [hP, ← e, decide_eq_true (c1.1 rfl), decide_eq_true (b2.1 rfl)]
                rfl
      · refine YieldAt.mono (hY pre (xl, xh) W' (hJ _ _ _ hj hb) (by simp at hN; omega)) ?_
        rintro e w' (⟨rfl, h1, h2, h3⟩ | ⟨rfl, h1⟩)
        · exact ⟨true, rfl, .inl ⟨rfl, h1, (KeepC.of_below hb).trans h2, (tr _ hb).trans h3⟩⟩
        · exact ⟨false, rfl, .inr ⟨rfl, _, List.prefix_rfl, h1⟩⟩
    · have hd0 : d ≠ 0 := fun h => hleaf (.inl h)
      have hcc : cutN xl xh = true := Decidable.byContradiction fun h => hleaf (.inr h)
      obtain ⟨d', rfl⟩ : ∃ d', d = d' + 1 := ⟨d - 1, by omega⟩
      rw [pieceN_cut hdr hcc] at hN ⊢
      obtain ⟨i1, i2, em⟩ := cut_iv i hcc
      have hc' := hcc
      unfold cutN at hc'
      rw [Bool.and_eq_true, Bool.and_eq_true, decide_eq_true_eq, decide_eq_true_eq] at hc'
      obtain ⟨c1, c2, c3⟩ := hc'
      rw [em] at hm
      rw [em, c1] at hpl
      rw [List.length_append] at hN
      obtain ⟨o1, a1, b1, g1⟩ := order_pos i1.high i.low
      obtain ⟨o2, a2, b2, g2⟩ := order_pos i1.high i.high
      rw [g1.2 c2] at a1
      rw [b2.2 c3] at a2
      refine (search_split po n pc ((d' + 1 : Nat) : Int) xl xh _ _ (midT xl xh).1 _ W hH hm hpl a1 a2 (by omega) (by omega) (fun w' => J (pre ++ pieceN ps n d' xl (midT xl xh).1) w' ∧ Below w0.heap.size w0 w') (fun w' => J (pre ++ (pieceN ps n d' xl (midT xl xh).1 ++ pieceN ps n d' (midT xl xh).1 xh)) w' ∧ Below w0.heap.size w0 w') (fun w' => ∃ q, q <+: pieceN ps n d' xl (midT xl xh).1 ++ pieceN ps n d' (midT xl xh).1 xh ∧ Jx (pre ++ q) w') (fun W' hb => ?_) (fun W' ht hk => ?_)).mono ?_
      · have := rec d' rfl xl (midT xl xh).1 i1 pre W' (tr _ hb) (hJ _ _ _ hj hb) (by omega)
        rw [show ((d' : Nat) : Int) = ((d' + 1 : Nat) : Int) - 1 by omega] at this
        refine this.mono ?_
        rintro e w' (⟨rfl, h1, h2, h3⟩ | ⟨rfl, q, h1, h2⟩)
        · exact .inl ⟨rfl, ⟨h1, h3⟩, h2⟩
        · exact .inr ⟨rfl, q, h1.trans (List.prefix_append _ _), h2⟩
      · have := rec d' rfl (midT xl xh).1 xh i2 _ W' ht.2 ht.1 (by rw [List.length_append]; omega)
        rw [show ((d' : Nat) : Int) = ((d' + 1 : Nat) : Int) - 1 by omega] at this
        refine this.mono ?_
        rintro e w' (⟨rfl, h1, h2, h3⟩ | ⟨rfl, q, h1, h2⟩)
        · exact .inl ⟨rfl, ⟨by rw [← List.append_assoc]; exact h1, h3⟩, h2⟩
        · exact .inr ⟨rfl, _ ++ q, (List.prefix_append_right_inj _).2 h1, by rw [← List.append_assoc]; exact h2⟩
      · rintro e w' (⟨rfl, ⟨h1, h3⟩, h2⟩ | ⟨rfl, h⟩)
        · exact .inl ⟨rfl, h1, h2, h3⟩
        · exact .inr ⟨rfl, h⟩

theorem search_any (A : Nat → Addr) (lid : Nat) {ps : Nat → Nat} {po : Option Addr} {n pc : Nat} (w0 : World) (hS : Sents A w0) (hF : FlV w0 po n ps) (hp : ∀ i, i < n → ps i < 18446744073709551616) (hr : rightN ps n = 0) (J Jx : List (Nat × Nat) → World → Prop) (N : Nat)
    (hJ : ∀ pre W W', J pre W → Below W.heap.size W W' → J pre W')
    (hY : ∀ pre x W, J pre W → pre.length < N → YieldAt Fence.wide 2 Tryz.prog lid #[.agg #[.float .f64 x.1, .float .f64 x.2]] W fun e W' => (e = .returned (.bool true) ∧ J (pre ++ [x]) W' ∧ KeepC W W' ∧ Below w0.heap.size W W') ∨ (e = .returned (.bool false) ∧ Jx (pre ++ [x]) W')) :
    ∀ (d : Nat), d ≤ 8 → ∀ (xl xh : Nat) (_ : Iv xl xh) (pre : List (Nat × Nat)) (W : World), Below w0.heap.size w0 W → J pre W → pre.length + (pieceN ps n d xl xh).length ≤ N → Calls Tryz.prog 105 #[.slice po n pc, .agg #[.float .f64 xl, .float .f64 xh], .int .i64 (d : Int), .func (.yield lid) #[] #[]] W fun e w' => (e = .returned (.bool true) ∧ J (pre ++ pieceN ps n d xl xh) w' ∧ KeepC W w' ∧ Below w0.heap.size w0 w') ∨ (e = .returned (.bool false) ∧ ∃ q, q <+: pieceN ps n d xl xh ∧ Jx (pre ++ q) w') := by
  intro d
  induction d with
  | zero =>
    intro hd xl xh i pre W hW hj hN
    exact search_step A lid w0 hS hF hp hr J Jx N hJ hY 0 hd xl xh i pre W hW hj hN (fun d' h => by omega)
  | succ d ih =>
    intro hd xl xh i pre W hW hj hN
    refine search_step A lid w0 hS hF hp hr J Jx N hJ hY (d + 1) hd xl xh i pre W hW hj hN (fun d' h => ?_)
    obtain rfl : d = d' := by omega
    exact ih (by omega)
end Go.Proofs.YtonhpkigoplmaaaGreatDoor
namespace Go.Proofs.YtonhpkigoplmaaaGreatDoor
open Go.RowKit Go.Shelf
attribute [local go_sem] run_store_float

theorem round_deep {m m' : Nat} {P : Program} {l : Nat} {f : FuncId} {tmps : Array Value} {assign body : Code} {w : World} {R : Ending → World → Prop}
    (h : RoundIn Fence.wide m P l f tmps assign body w R) : RoundIn Fence.wide m' P l f tmps assign body w R := ⟨h.1, fun c cs _ => h.2 c cs (fun d h => by cases h)⟩
theorem yield_deep {m : Nat} (m' : Nat) {P : Program} {l : Nat} {args : Array Value} {W : World} {R : Ending → World → Prop} (h : YieldAt Fence.wide m P l args W R) : YieldAt Fence.wide m' P l args W R := by
  obtain ⟨fn, tmps, assign, body, hy, hR⟩ := h
  exact ⟨fn, tmps, assign, body, hy, round_deep hR⟩
theorem grown_below {W W' : World} (h : Below W.heap.size W W') : W.grownBy W' none := ⟨h.os, h.tape, h.output, h.size, fun k hk _ => h.block k hk⟩

theorem equalIn_func {P : Program} (w : World) (d : Nat) (t : TypeId) {x y : Array TypeId} {z : Bool} (h : P.underlying t = some (.func x y z)) (fn : Fn) (a b : Array Value) : (Op.equalIn (d + 1) t (.func fn a b) .nilFunc).run P w = .ok false w := by
  simp [Op.equalIn, run_underlying h]
theorem equalIn_nilF {P : Program} (w : World) (d : Nat) (t : TypeId) {x y : Array TypeId} {z : Bool} (h : P.underlying t = some (.func x y z)) : (Op.equalIn (d + 1) t .nilFunc .nilFunc).run P w = .ok true w := by
  simp [Op.equalIn, run_underlying h]
theorem equal_func {P : Program} (w : World) (t : TypeId) {x y : Array TypeId} {z : Bool} (h : P.underlying t = some (.func x y z)) (fn : Fn) (a b : Array Value) : (Op.equal t (.func fn a b) .nilFunc).run P w = .ok false w := equalIn_func w 9999 t h fn a b
theorem equal_nilF {P : Program} (w : World) (t : TypeId) {x y : Array TypeId} {z : Bool} (h : P.underlying t = some (.func x y z)) : (Op.equal t .nilFunc .nilFunc).run P w = .ok true w := equalIn_nilF w 9999 t h
theorem neq_func {P : Program} (w : World) (t : TypeId) {x y : Array TypeId} {z : Bool} (h : P.underlying t = some (.func x y z)) (fn : Fn) (a b : Array Value) : (binOp .neq t (.func fn a b) .nilFunc).run P w = .ok (.bool true) w := by
  simp [binOp, equal_func w t h fn a b]
theorem eql_func {P : Program} (w : World) (t : TypeId) {x y : Array TypeId} {z : Bool} (h : P.underlying t = some (.func x y z)) (fn : Fn) (a b : Array Value) : (binOp .eql t (.func fn a b) .nilFunc).run P w = .ok (.bool false) w := by
  simp [binOp, equal_func w t h fn a b]
theorem eql_nilF {P : Program} (w : World) (t : TypeId) {x y : Array TypeId} {z : Bool} (h : P.underlying t = some (.func x y z)) : (binOp .eql t .nilFunc .nilFunc).run P w = .ok (.bool true) w := by
  simp [binOp, equal_nilF w t h]

set_option maxHeartbeats 4000000 in
set_option maxRecDepth 100000 in
theorem loop_walk (po : Option Addr) (n pc lid b1 b2 b3 xl xh : Nat) (d : Int) (W : World)
    (k1 : Boxed W b1 80 (.slice po n pc)) (k2 : W.heap[b2]? = some (.cells #[.float .f64 xl, .float .f64 xh] 67 (0, 0))) (k3 : Boxed W b3 3 (.int .i64 d)) (R : World → Prop)
    (hs : Calls Tryz.prog 105 #[.slice po n pc, .agg #[.float .f64 xl, .float .f64 xh], .int .i64 d, .func (.yield lid) #[] #[]] W fun e w' => ∃ b, e = .returned (.bool b) ∧ R w') :
    Calls Tryz.prog 104 #[.func (.yield lid) #[] #[], .pointer (some ⟨b1, 0, none⟩), .pointer (some ⟨b2, 0, none⟩), .pointer (some ⟨b3, 0, none⟩)] W fun e w' => (∃ v, e = .returned v) ∧ R w' := by
  have HS := hid hs
  clear hs
  have hyn := fun (w : World) => neq_func (P := Tryz.prog) w 149 Tryz.underlying149 (.yield lid) #[] #[]
  have c1 := k1.cell
  have c3 := k3.cell
  obtain ⟨x0, x1, -, -⟩ := blk2 k2
  clear k1 k2 k3
  go_enter Tryz.func104, Tryz.ntmps104
  go_wp2_with fail
  refine Calls.mono HS.out ?_
  rintro e w' ⟨b, rfl, hr⟩
  clear HS c1 c3 x0 x1
  go_wp2_with fail
  go_end0
  exact ⟨⟨_, rfl⟩, hr⟩

/-- What a round of plain.Roots keeps. -/
def KeepB (n0 : Nat) (W W' : World) : Prop := KeepC W W' ∧ Below n0 W W'
theorem KeepB.trans {n0 : Nat} {A B C : World} (h : KeepB n0 A B) (k : KeepB n0 B C) : KeepB n0 A C := ⟨h.1.trans k.1, h.2.trans k.2⟩
theorem KeepB.put {n0 : Nat} {w : World} (hn : n0 ≤ w.heap.size) (W : World) (l : Nat) (o o' : Obj) (hl : w.heap.size ≤ l) (h : W.heap[l]? = some o) (hc : o.isCells = false) (hw : o.isWalk = false) : KeepB n0 W (W.putObj l o') :=
  ⟨KeepC.put W l o o' h hc, belowK_b hn W l o o' hl h hc hw⟩

def encF (x : Nat × Nat) : Array Value := #[.agg #[.float .f64 x.1, .float .f64 x.2]]

/-- The loop's contract. -/
theorem loop_stops (A : Nat → Addr) {ps : Nat → Nat} {po : Option Addr} {n pc : Nat} (w0 : World) (hS : Sents A w0) (hF : FlV w0 po n ps) (hp : ∀ i, i < n → ps i < 18446744073709551616) (hr : rightN ps n = 0)
    (d : Nat) (hd : d ≤ 8) (xl xh : Nat) (i : Iv xl xh) (b1 b2 b3 m : Nat)
    (k1 : Boxed w0 b1 80 (.slice po n pc)) (k2 : w0.heap[b2]? = some (.cells #[.float .f64 xl, .float .f64 xh] 67 (0, 0))) (k3 : Boxed w0 b3 3 (.int .i64 (d : Int))) :
    SeqStopsK Fence.wide m Tryz.prog 104 #[.pointer (some ⟨b1, 0, none⟩), .pointer (some ⟨b2, 0, none⟩), .pointer (some ⟨b3, 0, none⟩)] encF (KeepB w0.heap.size) (fun ys => ys = pieceN ps n d xl xh) (fun pre => pre <+: pieceN ps n d xl xh) (pieceN ps n d xl xh).length w0 := by
  intro lid J Jx W hW hJ hJx hY h0
  refine callsIn_wide.2 ?_
  have hs := search_any A lid (pc := pc) w0 hS hF hp hr J Jx (pieceN ps n d xl xh).length (fun pre W W' hj hb => hJ pre W W' none hj (grown_below hb) (fun r e => by cases e)) (fun pre x W hj hl => by
    refine YieldAt.mono (yield_deep 2 (hY pre x W hj hl)) ?_
    rintro e w' (⟨rfl, a, b, c⟩ | h)
    · exact .inl ⟨rfl, a, b, c⟩
    · exact .inr h) d hd xl xh i [] W hW h0 (by simp)
  refine (loop_walk po n pc lid b1 b2 b3 xl xh (d : Int) W (blk_below k1 hW) (blk_below k2 hW) (blk_below k3 hW) (fun w' => (∃ xs, xs = pieceN ps n d xl xh ∧ J xs w') ∨ (∃ pre, pre <+: pieceN ps n d xl xh ∧ Jx pre w')) (hs.mono ?_)).mono ?_
  · rintro e w' (⟨rfl, a, -, -⟩ | ⟨rfl, q, a, b⟩)
    · exact ⟨true, rfl, .inl ⟨_, rfl, a⟩⟩
    · exact ⟨false, rfl, .inr ⟨q, a, b⟩⟩
  · rintro e w' h
    exact h
end Go.Proofs.YtonhpkigoplmaaaGreatDoor
namespace Go.Proofs.YtonhpkigoplmaaaGreatDoor
open Go.RowKit Go.Extern

set_option maxHeartbeats 1000000 in
set_option maxRecDepth 100000 in
theorem floats_own (ao : Option Addr) (n c : Nat) (ps : Nat → Nat) (w : World) (h : WdV w ao n ps) (hn : n * 8 ≤ 140737488355328) :
    Calls Tryz.prog 52 #[.slice ao n c] w fun e w' => ∃ bo bc, e = .returned (.slice bo n bc) ∧ w'.ownsRow w.heap.size 65 1 (.slice bo n bc) n (fvs ps n) ∧ Below w.heap.size w w' := by
  obtain ⟨i0, hi, hz0, hz1, hz2⟩ := info_parts infoF64
  have h93 := @run_callFunc_extern Tryz.prog 113 _ MathFloatBits.float64frombits Tryz.func113 (by kernel_rfl) (by kernel_rfl) (by kernel_rfl) (by kernel_rfl)
  have cf := c_from
  have HW : Hid (WdV w ao n ps) := h
  clear h
  go_enter Tryz.func52, Tryz.ntmps52
  go_wp2
  go_loopw [3, 5, 8] (fun v _ x wr => ∃ i : Nat, i ≤ n ∧ x = .int .i64 (i : Int) ∧ wr.ownsRow w.heap.size 65 1 v i (fvs ps i) ∧ Below w.heap.size w wr) (fun _ _ x _ => n - (intOf x).toNat)
  case atStart => exact ⟨0, Nat.zero_le _, rfl, World.ownsRow_nil _ _ _ _, Below.refl _ _⟩
  case round =>
    obtain ⟨i, hi1, rfl, hown, hb⟩ := hrel
    by_cases hin : i < n
    · obtain ⟨g, off, rfl, hg, hc⟩ := HW.out.2.resolve_left (by omega)
      have hci := hc i hin
      rw [← hb.cell (by exact hg)] at hci
      clear hc
      go_wp2_with (first
        | (at_builtin; refine wpList_append_own _ rfl _ _ 80 rfl w.heap.size 65 i0 (.float .f64 0) 1 8 Tryz.underlying80 hi hz0 hz1 hz2 rfl (by decide) _ _ _ rfl (hown.alloc _) ⟨wr.heap.size, 0, none⟩ 1 1 [.float .f64 (ps i)] rfl rfl ?c1 ?c2 ?c3 ?c4 ?c5 ?_)
        | go_in)
      case c1 =>
        intro j u hj
        match j, hj with
        | 0, hj => simp at hj; subst hj; simp [Addr.add]
      case c2 => intro u hu; simp at hu; subst hu; rfl
      case c3 => unfold maxLen; omega
      case c4 => omega
      case c5 => have := hb.size; simp; omega
      · intro v' w1 hown' hgrow _
        have R := fpush_step hown hb (Nat.le_refl _) hown' hgrow
        clear hown' hgrow hown hb hci
        go_wp2
        go_roundw
        case rel => exact ⟨i + 1, by omega, by go_num, R.1, R.2⟩
        case measure => simp [intOf]; omega
    · have e : i = n := by omega
      subst e
      have HO := hown
      obtain ⟨bo, bc, rfl, hv⟩ := FlV.of_owns hown
      have HO2 : Hid (wr.ownsRow w.heap.size 65 1 (.slice bo i bc) i (fvs ps i)) := HO
      clear hown HO
      go_wp2
      go_ret
      exact ⟨bo, bc, rfl, HO2.out, hb⟩

theorem equalIn_nil {P : Program} (w : World) (d : Nat) (t e : TypeId) (a : Option Addr) (l c : Nat) (h : P.underlying t = some (.slice e)) : (Op.equalIn (d + 1) t (.slice a l c) (.slice none 0 0)).run P w = .ok a.isNone w := by
  cases a <;> simp [Op.equalIn, run_underlying h]
theorem equal_nil {P : Program} (w : World) (t e : TypeId) (a : Option Addr) (l c : Nat) (h : P.underlying t = some (.slice e)) : (Op.equal t (.slice a l c) (.slice none 0 0)).run P w = .ok a.isNone w := equalIn_nil w 9999 t e a l c h
theorem slice_nil {P : Program} (w : World) (t e : TypeId) (a : Option Addr) (l c : Nat) (h : P.underlying t = some (.slice e)) : (binOp .eql t (.slice a l c) (.slice none 0 0)).run P w = .ok (.bool a.isNone) w := by
  simp [binOp, equal_nil w t e a l c h]

set_option maxHeartbeats 1000000 in
set_option maxRecDepth 100000 in
theorem clone_any (a : Addr) (n c : Nat) (ps : Nat → Nat) (w : World) (h : FlV w (some a) n ps) (hn : n * 8 ≤ 140737488355328) :
    Calls Tryz.prog 103 #[.slice (some a) n c] w fun e w' => ∃ bo bc, e = .returned (.slice bo n bc) ∧ w'.ownsRow w.heap.size 65 1 (.slice bo n bc) n (fvs ps n) ∧ Below w.heap.size w w' := by
  obtain ⟨i0, hi, hz0, hz1, hz2⟩ := info_parts infoF64
  have hlen : (fvs ps n).length = n := by unfold fvs; simp
  have hcell : ∀ j u, (fvs ps n)[j]? = some u → (w.alloc (.cells #[] 65)).cell? (a.add j) = some u := by
    intro j u hj
    have hjn : j < n := by
      have := (List.getElem?_eq_some_iff.1 hj).1
      rwa [hlen] at this
    rcases h with h0 | ⟨g, off, e, hg, hc⟩
    · omega
    · obtain rfl := Option.some.inj e
      have := hc j hjn
      have ea : (Addr.mk g off none).add j = ⟨g, off + j, none⟩ := by
        by_cases hj : j = 0
        · subst hj; simp [Addr.add]
        · simp [Addr.add, hj]
      rw [ea, ((Below.refl _ w).alloc (Nat.le_refl _) _).cell (by exact hg), this]
      unfold fvs at hj
      simp [hjn] at hj
      rw [← hj]
  have hone : ∀ u ∈ fvs ps n, u.oneCell' = true := by
    intro u hu
    unfold fvs at hu
    obtain ⟨i, _, rfl⟩ := List.mem_map.1 hu
    rfl
  have hnil := fun w => slice_nil (P := Tryz.prog) w 80 65 (some a) n c Tryz.underlying80
  have HC : Hid (∀ j u, (fvs ps n)[j]? = some u → (w.alloc (.cells #[] 65)).cell? (a.add j) = some u) := hcell
  clear h hcell
  go_enter Tryz.func103, Tryz.ntmps103
  go_wp2_with (first
    | (at_builtin; refine wpList_append_own _ rfl _ _ 80 rfl w.heap.size 65 i0 (.float .f64 0) 1 8 Tryz.underlying80 hi hz0 hz1 hz2 rfl (by decide) _ _ _ rfl (World.ownsRow_made _ _ _ (Nat.le_refl _) (by decide) (by simp)) a n c (fvs ps n) rfl (by rw [hlen]; omega) HC.out hone ?c3 ?c4 ?c5 ?_)
    | go_in)
  case c3 => unfold maxLen; omega
  case c4 => omega
  case c5 => simp
  · intro v' w1 hown' hgrow _
    have hb : Below w.heap.size w w1 := ((Below.refl _ w).alloc (Nat.le_refl _) _).grown hgrow (by simp) (fun k hk => by simp [Value.ownBlock] at hk; omega)
    obtain ⟨bo, bc, rfl, hv⟩ := FlV.of_owns hown'
    have HO : Hid (w1.ownsRow w.heap.size 65 1 (.slice bo n bc) n (fvs ps n)) := hown'
    clear hown' hgrow hv
    go_wp2
    go_ret
    exact ⟨bo, bc, rfl, HO.out, hb⟩
end Go.Proofs.YtonhpkigoplmaaaGreatDoor
namespace Go.Proofs.YtonhpkigoplmaaaGreatDoor
open Go.RowKit Go.Shelf
attribute [local go_sem] run_store_float


set_option maxHeartbeats 4000000 in
set_option maxRecDepth 100000 in
theorem rootsF_bad (po : Option Addr) (n c xl xh : Nat) (d : Int) (w : World) (R : Value → World → Prop)
    (hC : ∀ W, Below w.heap.size w W → Calls Tryz.prog 102 #[.slice po n c] W fun e w' => ∃ v, e = .returned v ∧ ((∃ p, v = .iface 229 p) ∨ (∃ p, v = .iface 136 p)) ∧ R v w' ∧ Below W.heap.size W w') :
    Calls Tryz.prog 53 #[.slice po n c, .agg #[.float .f64 xl, .float .f64 xh], .int .i64 d] w fun e w' => ∃ v, e = .returned (.tuple #[.nilFunc, v]) ∧ R v w' ∧ Below w.heap.size w w' := by
  have HC := hid hC
  clear hC
  go_enter Tryz.func53, Tryz.ntmps53
  go_wp2_with fail
  have hW : Below w.heap.size w ((w.alloc (Obj.cells #[.float .f64 xl, .float .f64 xh] 67)).alloc (Obj.cells #[.int .i64 d] 3)) := ((Below.refl _ _).alloc (Nat.le_refl _) _).alloc (by simp) _
  generalize ((w.alloc (Obj.cells #[.float .f64 xl, .float .f64 xh] 67)).alloc (Obj.cells #[.int .i64 d] 3)) = W1 at *
  refine Calls.mono (HC.out _ hW) ?_
  rintro e w1 ⟨v, rfl, hv, hR, hb1⟩
  have hB : Below w.heap.size w w1 := hW.trans (hb1.mono hW.size)
  clear hW hb1 HC
  rcases hv with ⟨p, rfl⟩ | ⟨p, rfl⟩
  · go_wp2_with fail
    refine bodyPost_ret (v := .tuple #[.nilFunc, .iface 229 p]) (by simp [results, Tryz.results53, go_sem]) rfl ?_
    exact ⟨_, rfl, hR, hB⟩
  · go_wp2_with fail
    refine bodyPost_ret (v := .tuple #[.nilFunc, .iface 136 p]) (by simp [results, Tryz.results53, go_sem]) rfl ?_
    exact ⟨_, rfl, hR, hB⟩

set_option maxHeartbeats 4000000 in
set_option maxRecDepth 100000 in
theorem rootsF_shape (po : Option Addr) (n c xl xh : Nat) (d : Int) (w : World) (p : Value) (hd : d < 0 ∨ 8 < d) (hg : ∀ W, Below w.heap.size w W → W.cell? ⟨7, 0, none⟩ = some (.iface 229 p))
    (hC : ∀ W, Below w.heap.size w W → Calls Tryz.prog 102 #[.slice po n c] W fun e w' => e = .returned .nilIface ∧ Below W.heap.size W w') :
    Calls Tryz.prog 53 #[.slice po n c, .agg #[.float .f64 xl, .float .f64 xh], .int .i64 d] w fun e w' => e = .returned (.tuple #[.nilFunc, .iface 229 p]) ∧ Below w.heap.size w w' := by
  have HC := hid hC
  have HG := hid hg
  have HD := hid hd
  clear hC hg hd
  go_enter Tryz.func53, Tryz.ntmps53
  go_wp2_with fail
  have hW : Below w.heap.size w ((w.alloc (Obj.cells #[.float .f64 xl, .float .f64 xh] 67)).alloc (Obj.cells #[.int .i64 d] 3)) := ((Below.refl _ _).alloc (Nat.le_refl _) _).alloc (by simp) _
  have B2 : Boxed ((w.alloc (Obj.cells #[.float .f64 xl, .float .f64 xh] 67)).alloc (Obj.cells #[.int .i64 d] 3)) (w.alloc (Obj.cells #[.float .f64 xl, .float .f64 xh] 67)).heap.size _ _ := Boxed.new _ _ _
  rw [World.size_alloc] at B2
  generalize ((w.alloc (Obj.cells #[.float .f64 xl, .float .f64 xh] 67)).alloc (Obj.cells #[.int .i64 d] 3)) = W1 at *
  refine Calls.mono (HC.out _ hW) ?_
  rintro e w1 ⟨rfl, hb1⟩
  have hB : Below w.heap.size w w1 := hW.trans (hb1.mono hW.size)
  have c2 := Boxed.cell (show Boxed w1 _ _ _ from blk_below B2 hb1)
  have cg := HG.out w1 hB
  have HB := hid hB
  clear hW hb1 HC B2 hB HG
  by_cases h0 : d < 0
  · clear HD
    go_wp2_with fail
    go_region
    all_goals go_wp2_with fail
    all_goals refine bodyPost_ret (v := .tuple #[.nilFunc, .iface 229 p]) (by simp [results, Tryz.results53, go_sem]) rfl ?_
    all_goals exact ⟨rfl, HB.out.drew⟩
  · have h8 := HD.out.resolve_left h0
    clear HD
    go_wp2_with fail
    go_region
    all_goals go_wp2_with fail
    all_goals refine bodyPost_ret (v := .tuple #[.nilFunc, .iface 229 p]) (by simp [results, Tryz.results53, go_sem]) rfl ?_
    all_goals exact ⟨rfl, HB.out.drew⟩

set_option maxHeartbeats 4000000 in
set_option maxRecDepth 100000 in
theorem rootsF_good (po : Option Addr) (n c xl xh : Nat) (ps : Nat → Nat) (d : Int) (w : World) (h0 : ¬ d < 0) (h8 : ¬ 8 < d)
    (hC : ∀ W, Below w.heap.size w W → Calls Tryz.prog 102 #[.slice po n c] W fun e w' => e = .returned .nilIface ∧ Below W.heap.size W w')
    (hL : ∀ W, Below w.heap.size w W → Calls Tryz.prog 103 #[.slice po n c] W fun e w' => ∃ bo bc, e = .returned (.slice bo n bc) ∧ w'.ownsRow W.heap.size 65 1 (.slice bo n bc) n (fvs ps n) ∧ Below W.heap.size W w') :
    Calls Tryz.prog 53 #[.slice po n c, .agg #[.float .f64 xl, .float .f64 xh], .int .i64 d] w fun e w' => ∃ b1 b2 b3 qo qc, e = .returned (.tuple #[(.func (.func 104) #[] #[.pointer (some ⟨b1, 0, none⟩), .pointer (some ⟨b2, 0, none⟩), .pointer (some ⟨b3, 0, none⟩)]), .nilIface]) ∧ w.heap.size ≤ b1 ∧ w.heap.size ≤ b2 ∧ w.heap.size ≤ b3 ∧ Boxed w' b1 80 (.slice qo n qc) ∧ w'.heap[b2]? = some (.cells #[.float .f64 xl, .float .f64 xh] 67 (0, 0)) ∧ Boxed w' b3 3 (.int .i64 d) ∧ w'.ownsRow w.heap.size 65 1 (.slice qo n qc) n (fvs ps n) ∧ Below w.heap.size w w' := by
  have hmf : ∀ (fn : Fn) (first cap : Array Value) (w : World), (Instr.makeFunc fn first cap).run Tryz.prog w = .ok (.func fn first cap) w := fun _ _ _ _ => rfl
  have HC := hid hC
  have HL := hid hL
  clear hC hL
  go_enter Tryz.func53, Tryz.ntmps53
  go_wp2_with fail
  have hW : Below w.heap.size w ((w.alloc (Obj.cells #[.float .f64 xl, .float .f64 xh] 67)).alloc (Obj.cells #[.int .i64 d] 3)) := ((Below.refl _ _).alloc (Nat.le_refl _) _).alloc (by simp) _
  have B1 := blk_old (blk_new w (Obj.cells #[.float .f64 xl, .float .f64 xh] 67)) (Obj.cells #[.int .i64 d] 3)
  have B2 : Boxed ((w.alloc (Obj.cells #[.float .f64 xl, .float .f64 xh] 67)).alloc (Obj.cells #[.int .i64 d] 3)) (w.alloc (Obj.cells #[.float .f64 xl, .float .f64 xh] 67)).heap.size _ _ := Boxed.new _ _ _
  rw [World.size_alloc] at B2
  generalize ((w.alloc (Obj.cells #[.float .f64 xl, .float .f64 xh] 67)).alloc (Obj.cells #[.int .i64 d] 3)) = W1 at *
  refine Calls.mono (HC.out _ hW) ?_
  rintro e w1 ⟨rfl, hb1⟩
  have HB : Hid (Below w.heap.size w w1) := hW.trans (hb1.mono hW.size)
  have K1 := hid (blk_below B1 hb1)
  have K2 : Hid (Boxed w1 _ _ _) := blk_below B2 hb1
  have c2 := K2.out.cell
  clear hW hb1 HC B1 B2
  go_wp2_with fail
  refine Calls.mono (HL.out _ HB.out) ?_
  rintro e w2 ⟨bo, bc, rfl, ho, hb2⟩
  have HB2 : Hid (Below w.heap.size w w2) := HB.out.trans (hb2.mono HB.out.size)
  have K1 := hid (blk_below K1.out hb2)
  have K2 : Hid (Boxed w2 _ _ _) := blk_below K2.out hb2
  have HO : Hid (w2.ownsRow w.heap.size 65 1 (.slice bo n bc) n (fvs ps n)) := ownsRow_mono ho (Below.refl _ _) HB.out.size
  clear ho hb2 HB HL c2
  go_wp2_with fail
  refine bodyPost_ret (v := .tuple #[.func (.func 104) #[] #[.pointer (some ⟨w2.heap.size, 0, none⟩), .pointer (some ⟨w.heap.size, 0, none⟩), .pointer (some ⟨w.heap.size + 1, 0, none⟩)], .nilIface]) (by simp [results, Tryz.results53, go_sem]) rfl ?_
  exact ⟨_, _, _, bo, bc, rfl, HB2.out.size, Nat.le_refl _, Nat.le_succ _, Boxed.new _ _ _, blk_old K1.out _, K2.out.alloc _, HO.out.alloc _, HB2.out.alloc HB2.out.size _⟩

theorem rootsF_any (A : Nat → Addr) (po : Option Addr) (n c xl xh : Nat) (ps : Nat → Nat) (d : Int) (w : World) (hS : Sents A w) (h : FlV w po n ps) (hp : ∀ i, i < n → ps i < 18446744073709551616) (hn : n * 8 ≤ 140737488355328) :
    Calls Tryz.prog 53 #[.slice po n c, .agg #[.float .f64 xl, .float .f64 xh], .int .i64 d] w fun e w' => ∃ f v, e = .returned (.tuple #[f, v]) ∧ ErrIs A w' v (rootsE ps n d) ⟨#[]⟩ ∧ Below w.heap.size w w' ∧ (rootsE ps n d ≠ 0 ∧ f = .nilFunc ∨ rootsE ps n d = 0 ∧ ∃ b1 b2 b3 qo qc, f = (.func (.func 104) #[] #[.pointer (some ⟨b1, 0, none⟩), .pointer (some ⟨b2, 0, none⟩), .pointer (some ⟨b3, 0, none⟩)]) ∧ w.heap.size ≤ b1 ∧ w.heap.size ≤ b2 ∧ w.heap.size ≤ b3 ∧ Boxed w' b1 80 (.slice qo n qc) ∧ w'.heap[b2]? = some (.cells #[.float .f64 xl, .float .f64 xh] 67 (0, 0)) ∧ Boxed w' b3 3 (.int .i64 d) ∧ w'.ownsRow w.heap.size 65 1 (.slice qo n qc) n (fvs ps n)) := by
  have hC : ∀ W, Below w.heap.size w W → Calls Tryz.prog 102 #[.slice po n c] W fun e w' => ∃ v, e = .returned v ∧ ErrIs A w' v (rightN ps n) ⟨#[]⟩ ∧ Below W.heap.size W w' := fun W hb => check_any A po n c ps W (hS.below hb (Nat.le_refl _)) (h.below hb) hp hn
  by_cases h0 : rightN ps n ≠ 0
  · have he : rootsE ps n d = rightN ps n := by unfold rootsE; rw [if_pos h0]
    rw [he]
    refine (rootsF_bad po n c xl xh d w (fun v w' => ErrIs A w' v (rightN ps n) ⟨#[]⟩) (fun W hb => ?_)).mono ?_
    · refine (hC W hb).mono ?_
      rintro e w' ⟨v, rfl, hE, hb'⟩
      refine ⟨v, rfl, ?_, hE, hb'⟩
      generalize rightN ps n = k at *
      rcases hE with ⟨rfl, rfl, -⟩ | ⟨k, h, rfl, rfl, -⟩ | ⟨k, h, b, hh, rfl, rfl⟩
      · exact absurd rfl h0
      · exact .inl ⟨_, rfl⟩
      · exact .inr ⟨_, rfl⟩
    · rintro e w' ⟨v, rfl, hE, hb⟩
      exact ⟨_, v, rfl, hE, hb, .inl ⟨h0, rfl⟩⟩
  · have h0' : rightN ps n = 0 := Decidable.not_not.1 h0
    have hC' : ∀ W, Below w.heap.size w W → Calls Tryz.prog 102 #[.slice po n c] W fun e w' => e = .returned .nilIface ∧ Below W.heap.size W w' := by
      intro W hb
      refine (hC W hb).mono ?_
      rintro e w' ⟨v, rfl, hE, hb'⟩
      rw [h0'] at hE
      exact ⟨by rw [hE.zero], hb'⟩
    by_cases hd : d < 0 ∨ 8 < d
    · have he : rootsE ps n d = 8 := by unfold rootsE; rw [if_neg h0, if_pos hd]
      rw [he]
      refine (rootsF_shape po n c xl xh d w (.pointer (some (A 7))) hd (fun W hb => (hS.below hb (Nat.le_refl _)).cell 7 (by omega)) hC').mono ?_
      rintro e w' ⟨rfl, hb⟩
      exact ⟨_, _, rfl, ErrIs.one 7 (by omega), hb, .inl ⟨by decide, rfl⟩⟩
    · have he : rootsE ps n d = 0 := by unfold rootsE; rw [if_neg h0, if_neg hd]
      rw [he]
      have hn1 := (right_plain h0').1
      obtain ⟨a, rfl⟩ : ∃ a, po = some a := by
        rcases h with h | ⟨g, off, e, _⟩
        · omega
        · exact ⟨_, e⟩
      refine (rootsF_good (some a) n c xl xh ps d w (by omega) (by omega) hC' (fun W hb => clone_any a n c ps W (h.below hb) hn)).mono ?_
      rintro e w' ⟨b1, b2, b3, qo, qc, rfl, p1, p2, p3, k1, k2, k3, ho, hb⟩
      exact ⟨_, _, rfl, ErrIs.nil, hb, .inr ⟨rfl, b1, b2, b3, qo, qc, rfl, p1, p2, p3, k1, k2, k3, ho⟩⟩
end Go.Proofs.YtonhpkigoplmaaaGreatDoor
namespace Go.Proofs.YtonhpkigoplmaaaGreatDoor
open Go.RowKit Go.Shelf

theorem cell_two_new (W : World) (a b : Value) (t : TypeId) : ∀ j u, [a, b][j]? = some u → (W.alloc (.cells #[a, b] t)).cell? (Addr.add ⟨W.heap.size, 0, none⟩ j) = some u := by
  intro j u hj
  match j, hj with
  | 0, hj => simp at hj; subst hj; simp [Addr.add]
  | 1, hj => simp at hj; subst hj; simp [Addr.add]
  | j + 2, hj => simp at hj

/-- What a loop that is left behind b pieces has had. -/
def takeN (l : List (Nat × Nat)) (b : Int) : List (Nat × Nat) := if 0 < b ∧ b < (l.length : Int) then l.take b.toNat else l

/-- The boxed loop variable. -/
theorem loop_boxed {n : Nat} {P : Program} {g : Operand} {ps : Array Tmp} {assign body : Code} {Q : Exit → Act → World → Prop} {a : Act} {w : World} (h1 : 1 ≤ n) {gf : Nat} {lb : Array Value} (hg : a.eval g = .func (.func gf) #[] lb) (eg : ∀ args w, (callFunc gf args).run P w = .ok (.enter gf args) w)
    {Kp : World → World → Prop} {S Sp : List (Nat × Nat) → Prop} {N : Nat} {w0 : World} (hseq : SeqStopsK Fence.wide (n - 1) P gf lb encF Kp S Sp N w0)
    (hKt : ∀ {A B C : World}, Kp A B → Kp B C → Kp A C) (hKb : ∀ (W : World) (l : Nat) (o o' : Obj), w.heap.size ≤ l → W.heap[l]? = some o → o.isCells = false → o.isWalk = false → Kp W (W.putObj l o')) (hb0 : Below w0.heap.size w0 w) (hps : ps.size = 1)
    (I : List (Nat × Nat) → World → Prop) (Ix : Code → List (Nat × Nat) → World → Prop) (hI : OwnFrom w.heap.size I) (hIx : ∀ c, OwnFrom w.heap.size (Ix c)) (h0 : I [] w) (hKa : ∀ pre W o, I pre W → Kp W (W.alloc o)) (p q : Tmp) (t : TypeId)
    (hassign : ∀ (l : Nat) (x : Nat × Nat) (W : World) (K : Act → World → Prop), K { tmps := (a.tmps.setIfInBounds p (.agg #[.float .f64 x.1, .float .f64 x.2])).setIfInBounds q (.pointer (some ⟨W.heap.size, 0, none⟩)), defers := [] } (W.alloc (.cells #[.float .f64 x.1, .float .f64 x.2] t)) →
      assign.wpIn (Fence.wide.inRound l) (n - 1 - 1) P (Exit.then K (fun _ _ _ => False)) { tmps := (ps.zip (encF x)).foldl (fun t (p, v) => t.setIfInBounds p v) a.tmps, defers := [] } W)
    (hbody : ∀ (l : Nat) (pre : List (Nat × Nat)) (x : Nat × Nat) (Bx : Nat) (W : World), I pre W → W.heap[Bx]? = some (.cells #[.float .f64 x.1, .float .f64 x.2] t (0, 0)) → pre.length < N → body.wpIn (Fence.wide.inRound l) (n - 1 - 1) P (ownPostG w.heap.size Kp I Ix (pre ++ [x]) W) { tmps := (a.tmps.setIfInBounds p (.agg #[.float .f64 x.1, .float .f64 x.2])).setIfInBounds q (.pointer (some ⟨Bx, 0, none⟩)), defers := [] } W)
    (hdone : ∀ (D : Nat) (xs : List (Nat × Nat)) (W : World), w.heap.size ≤ D → S xs → I xs W → W.heap[D]? = some (.deferred (some [])) → Q .normal { a with defers := { target := .collected D, args := #[] } :: a.defers } W)
    (hstop : ∀ (D : Nat) (c : Code) (pre : List (Nat × Nat)) (W : World), w.heap.size ≤ D → Sp pre → Ix c pre W → W.heap[D]? = some (.deferred (some [])) → c.wpIn Fence.wide n P Q { a with defers := { target := .collected D, args := #[] } :: a.defers } W) :
    (Code.rangeFunc g ps assign body).wpIn Fence.wide n P Q a w := by
  refine wpIn_rangeFunc_ownH rfl h1 hg trivial eg hseq hKt hKb hb0 (fun x => by rw [hps]; rfl) I Ix hI hIx h0
    (fun x a' W => ∃ Bx, W.heap[Bx]? = some (.cells #[.float .f64 x.1, .float .f64 x.2] t (0, 0)) ∧ a' = { tmps := (a.tmps.setIfInBounds p (.agg #[.float .f64 x.1, .float .f64 x.2])).setIfInBounds q (.pointer (some ⟨Bx, 0, none⟩)), defers := [] })
    (fun x a' => ?_) ?_ ?_ hdone hstop
  · rintro _ X Y row ⟨Bx, hx, e⟩ hgr hr
    refine ⟨Bx, (hgr.block Bx (lt_of_row hx) (fun er => ?_)).trans hx, e⟩
    obtain ⟨-, o, ho, hc⟩ := hr Bx er.symm
    rw [hx] at ho
    cases ho
    cases hc
  · intro l pre x W K hi hK
    exact hassign l x W K (hK _ _ ((KeepsOthers.alloc _ _).from _) (hKa pre W _ hi) (hI.alloc _ hi) ⟨W.heap.size, blk_new W _, rfl⟩)
  · rintro l pre x a' W hl - hi ⟨Bx, hx, rfl⟩ hlen
    exact hbody l pre x Bx W hi hx hlen

/-- Behind 'out = append(out, ..)': the blocks of other types. -/
theorem push_keep {w2 w1 : World} {n0 B : Nat} {v v' : Value} {k : Nat} {xs : List Value} {tmp : Obj} (hv : Boxed w2 B 41 v) (hrow : w2.ownsRow n0 33 2 v k xs) (hgrow : (w2.alloc tmp).grownBy w1 v.ownBlock) : KeepC w2 (w1.setCell ⟨B, 0, none⟩ v') := by
  have g1 := World.grownBy_alloc w2 tmp none
  have g3 := grownBy_setCell' w1 B v'
  refine ⟨Nat.le_trans g1.size (Nat.le_trans hgrow.size g3.size), g3.os.trans (hgrow.os.trans g1.os), g3.tape.trans (hgrow.tape.trans g1.tape), g3.output.trans (hgrow.output.trans g1.output), fun b x t f e h1 h2 => ?_⟩
  have e1 := (g1.block b (lt_of_row e) (by simp)).trans e
  have e2 : w1.heap[b]? = some (.cells x t f) := by
    refine (hgrow.block b (lt_of_row e1) (fun er => ?_)).trans e1
    rcases hrow.2 with ⟨rfl, _⟩ | ⟨g, cap, cur, rfl, _, hgb, _⟩
    · simp [Value.ownBlock] at er
    · obtain rfl : b = g := by simpa [Value.ownBlock] using er
      rw [e] at hgb
      cases hgb
      exact h1 rfl
  refine (g3.block b (lt_of_row e2) (fun er => ?_)).trans e2
  obtain rfl : b = B := by simpa using er
  rw [show w2.heap[b]? = _ from hv] at e
  cases e
  exact h2 rfl

/-- .. another box; -/
theorem push_box {w2 w1 : World} {n0 B B' : Nat} {v v' u : Value} {k : Nat} {xs : List Value} {tmp : Obj} (hrow : w2.ownsRow n0 33 2 v k xs) (hgrow : (w2.alloc tmp).grownBy w1 v.ownBlock) (hu : Boxed w2 B' 41 u) (hne : B' ≠ B) : Boxed (w1.setCell ⟨B, 0, none⟩ v') B' 41 u :=
  ((hu.alloc tmp).kept hgrow (hu.not_row (by decide) hrow)).other hne v'

/-- .. another list. -/
theorem push_row {w2 w1 : World} {n0 n1 B : Nat} {v v' u : Value} {k m : Nat} {xs ys : List Value} {tmp : Obj} (hv : Boxed w2 B 41 v) (hrow : w2.ownsRow n1 33 2 v k xs) (hgrow : (w2.alloc tmp).grownBy w1 v.ownBlock) (hu : w2.ownsRow n0 33 2 u m ys) (hlt : ∀ g, u.ownBlock = some g → g < n1) : (w1.setCell ⟨B, 0, none⟩ v').ownsRow n0 33 2 u m ys := by
  have hv1 : Boxed w1 B _ v := (hv.alloc tmp).kept hgrow (hv.not_row (by decide) hrow)
  have hu1 : w1.ownsRow n0 33 2 u m ys := by
    refine (hu.alloc tmp).kept hgrow ?_
    rcases hu.2 with ⟨rfl, _⟩ | ⟨g, cap, cur, rfl, hg, hgb, _⟩
    · exact .inl rfl
    · refine .inr fun er => ?_
      have h1 := hlt g rfl
      rcases hrow.2 with ⟨rfl, _⟩ | ⟨g', cap', cur', rfl, hg', hgb', _⟩
      · simp [Value.ownBlock] at er
      · simp [Value.ownBlock] at er
        omega
  exact hu1.kept (grownBy_setCell' w1 B v') (.inr (hv1.not_row (by decide) hu1).symm)

theorem row_own {β : Type} (n0 e size : Nat) (u : Value) (m : Nat) (ys : List Value) : Own (fun (_ : β) W => W.ownsRow n0 e size u m ys) := by
  intro s X Y row hr hg hrow
  refine hr.kept hg ?_
  rcases hr.2 with ⟨rfl, _⟩ | ⟨g, cap, cur, rfl, _, hgb, _⟩
  · exact .inl rfl
  · refine .inr fun e' => ?_
    obtain ⟨o, ho, hc⟩ := hrow g (by simpa [Value.ownBlock] using e'.symm)
    rw [hgb] at ho; cases ho; cases hc
theorem heap_own {β : Type} {B D : Nat} {o : Obj} (hD : D < B) : OwnFrom B (fun (_ : β) W => W.heap[D]? = some o) := by
  intro s X Y row h hg hrow
  exact (hg.block D (lt_of_row h) (fun e => by have := (hrow D e.symm).1; omega)).trans h

/-- What a loop that was left, or not, has had. -/
theorem take_done {L : List (Nat × Nat)} {stop : Int} (h : ∀ k : Nat, 1 ≤ k → k ≤ L.length → (k : Int) ≠ stop) : takeN L stop = L := by
  unfold takeN
  split
  · rename_i hc
    exact absurd (by omega) (h stop.toNat (by omega) (by omega))
  · rfl
theorem take_stop {L pre : List (Nat × Nat)} {stop : Int} (hp : pre <+: L) (h : (pre.length : Int) = stop) (h1 : 1 ≤ pre.length) : takeN L stop = pre := by
  have hl := hp.length_le
  have e := List.prefix_iff_eq_take.1 hp
  unfold takeN
  split
  · rw [show stop.toNat = pre.length by omega]; exact e.symm
  · rename_i hc
    rw [show pre.length = L.length by omega, List.take_length] at e
    exact e.symm
end Go.Proofs.YtonhpkigoplmaaaGreatDoor
namespace Go.Proofs.YtonhpkigoplmaaaGreatDoor
open Go.RowKit Go.Extern Ieee
attribute [local go_sem] run_store_float

end Go.Proofs.YtonhpkigoplmaaaGreatDoor
namespace Go.Proofs.YtonhpkigoplmaaaGreatDoor
open Go.RowKit Go.Shelf
attribute [local go_sem] run_store_float

theorem grown_set (W : World) (g i : Nat) (v : Value) : W.grownBy (W.setCell ⟨g, i, none⟩ v) (some g) :=
  ⟨rfl, rfl, rfl, (KeepsWalks.setCell W _ v).size, fun k _ hk => Below.heap_setCell _ _ _ k (fun e => hk (by rw [e]))⟩
theorem grown_below2 {w A B : World} {g : Nat} (hb : Below w.heap.size w A) (h : A.grownBy B (some g)) (hg : w.heap.size ≤ g) : Below w.heap.size w B :=
  hb.grown h hb.size (fun k e => by cases e; exact hg)

/-- A list of floats that may be written. -/
def Row (W : World) (g n : Nat) : Prop := ∃ cur, W.heap[g]? = some (.cells cur 65 (0, 0)) ∧ n ≤ cur.size
theorem Row.cell {W : World} {g n : Nat} (h : Row W g n) {i : Nat} (hi : i < n) : ∃ u, W.cell? ⟨g, i, none⟩ = some u ∧ W.frozen? ⟨g, i, none⟩ = false := by
  obtain ⟨cur, hh, hc⟩ := h
  refine ⟨cur[i]'(by omega), ?_, ?_⟩
  · rw [cell_of_cur hh]; exact Array.getElem?_eq_getElem (by omega)
  · simp [World.frozen?, hh]
theorem Row.set {W : World} {g n : Nat} (h : Row W g n) (i : Nat) (v : Value) : Row (W.setCell ⟨g, i, none⟩ v) g n := by
  obtain ⟨cur, hh, hc⟩ := h
  obtain ⟨hlt, hk⟩ := Array.getElem?_eq_some_iff.1 hh
  refine ⟨cur.setIfInBounds i v, ?_, by simpa using hc⟩
  show (W.heap.modify g _)[g]? = _
  rw [Array.getElem?_eq_getElem (by rw [Array.size_modify]; exact hlt), Array.getElem_modify_self, hk]
  rfl
theorem Row.below {W W' : World} {g n : Nat} (h : Row W g n) (hb : Below W.heap.size W W') : Row W' g n := by
  obtain ⟨cur, hh, hc⟩ := h
  exact ⟨cur, blk_below hh hb, hc⟩
theorem Row.of_owns {W : World} {v : Value} {n B : Nat} {xs : List Value} (h : W.ownsRow B 65 1 v n xs) : n = 0 ∨ ∃ g c, v = .slice (some ⟨g, 0, none⟩) n c ∧ B ≤ g ∧ Row W g n := by
  obtain ⟨_, h2⟩ := h
  rcases h2 with ⟨rfl, h0⟩ | ⟨g, cap, cur, rfl, hg, hh, hn, hcap, hs, ht⟩
  · exact .inl h0
  · exact .inr ⟨g, cap, rfl, hg, cur, hh, by omega⟩

set_option maxHeartbeats 8000000 in
set_option maxRecDepth 100000 in
theorem plainRoots_bad (A : Nat → Addr) (ao : Option Addr) (n c : Nat) (xl xh al ah r3 : Nat) (d stop : Int) (w : World) (fs : List Value) (hn : n * 8 ≤ 140737488355328)
    (hf : ∀ W, Below w.heap.size w W → Calls Tryz.prog 52 #[.slice ao n c] W fun e w' => ∃ bo bc, e = .returned (.slice bo n bc) ∧ w'.ownsRow W.heap.size 65 1 (.slice bo n bc) n fs ∧ Below W.heap.size W w')
    (hx : ∀ W, Below w.heap.size w W → Calls Tryz.prog 40 #[.agg #[.int .u64 (xl : Int), .int .u64 (xh : Int)]] W fun e w' => e = .returned (.agg #[.float .f64 al, .float .f64 ah]) ∧ Below W.heap.size W w')
    (hR : ∀ W bo bc, Below w.heap.size w W → W.ownsRow w.heap.size 65 1 (.slice bo n bc) n fs → Calls Tryz.prog 53 #[.slice bo n bc, .agg #[.float .f64 al, .float .f64 ah], .int .i64 d] W fun e w' => ∃ v, e = .returned (.tuple #[.nilFunc, v]) ∧ ErrIs A w' v r3 ⟨#[]⟩ ∧ Below W.heap.size W w')
    (hc : ∀ W v, Below w.heap.size w W → ErrIs A W v r3 ⟨#[]⟩ → Calls Tryz.prog 49 #[v] W fun e w' => e = .returned (.tuple #[.int .i64 (r3 : Int), .string ⟨#[]⟩]) ∧ Below W.heap.size W w') :
    Calls Tryz.prog 23 #[.slice ao n c, .agg #[.int .u64 (xl : Int), .int .u64 (xh : Int)], .int .i64 d, .int .i64 stop] w fun e w' => e = .returned (.tuple #[.slice none 0 0, .slice none 0 0, .int .i64 (r3 : Int)]) ∧ Below w.heap.size w w' := by
  have hnf := fun (w : World) => eql_nilF (P := Tryz.prog) w 82 Tryz.underlying82
  have HF := hid hf
  have HX := hid hx
  have HR := hid hR
  have HC := hid hc
  clear hf hx hR hc
  go_enter Tryz.func23, Tryz.ntmps23
  go_wp2_with fail
  have hW : Below w.heap.size w ((w.alloc (Obj.cells #[.int .u64 (xl : Int), .int .u64 (xh : Int)] 33)).alloc (Obj.cells #[.int .i64 stop] 3)) := ((Below.refl _ _).alloc (Nat.le_refl _) _).alloc (by simp) _
  have B1 := blk_old (blk_new w (Obj.cells #[.int .u64 (xl : Int), .int .u64 (xh : Int)] 33)) (Obj.cells #[.int .i64 stop] 3)
  generalize ((w.alloc (Obj.cells #[.int .u64 (xl : Int), .int .u64 (xh : Int)] 33)).alloc (Obj.cells #[.int .i64 stop] 3)) = W1 at *
  refine Calls.mono (HF.out _ hW) ?_
  rintro e w1 ⟨bo, bc, rfl, ho, hb1⟩
  have HB : Hid (Below w.heap.size w w1) := hW.trans (hb1.mono hW.size)
  have K1 := hid (blk_below B1 hb1)
  have HO : Hid (w1.ownsRow w.heap.size 65 1 (.slice bo n bc) n fs) := ownsRow_mono ho (Below.refl _ _) hW.size
  obtain ⟨x0, x1, -, -⟩ := blk2 K1.out
  have lx := lt_of_row K1.out
  clear hW hb1 HF B1 ho
  go_wp2_with fail
  refine Calls.mono (HX.out _ HB.out) ?_
  rintro e w2 ⟨rfl, hb2⟩
  have HB2 : Hid (Below w.heap.size w w2) := HB.out.trans (hb2.mono HB.out.size)
  have HO : Hid (w2.ownsRow w.heap.size 65 1 (.slice bo n bc) n fs) := ownsRow_mono HO.out hb2 (Nat.le_refl _)
  clear hb2 HB HX x0 x1 lx K1
  go_wp2_with fail
  refine Calls.mono (HR.out _ _ _ HB2.out HO.out) ?_
  rintro e w3 ⟨v, rfl, hE, hb3⟩
  have HB3 : Hid (Below w.heap.size w w3) := HB2.out.trans (hb3.mono HB2.out.size)
  have HO : Hid (w3.ownsRow w.heap.size 65 1 (.slice bo n bc) n fs) := ownsRow_mono HO.out hb3 (Nat.le_refl _)
  have HE := hid hE
  clear hb3 HB2 HR hE
  go_wp2_with fail
  refine Calls.mono (HC.out _ _ HB3.out HE.out) ?_
  rintro e w4 ⟨rfl, hb4⟩
  have HB4 : Hid (Below w.heap.size w w4) := HB3.out.trans (hb4.mono HB3.out.size)
  have HO : Hid (w4.ownsRow w.heap.size 65 1 (.slice bo n bc) n fs) := ownsRow_mono HO.out hb4 (Nat.le_refl _)
  clear hb4 HB3 HC HE
  have hrow := Row.of_owns HO.out
  clear HO
  rcases hrow with h0 | ⟨g, gc, e, hg, hr⟩
  · have hn0 := h0
    go_wp2_with fail
    go_loopw [16, 38] (fun _ v wr => ∃ i : Nat, i ≤ n ∧ v = .int .i64 (i : Int) ∧ Below w.heap.size w wr) (fun _ v _ => n - (intOf v).toNat)
    case atStart => exact ⟨0, Nat.zero_le _, rfl, HB4.out⟩
    case round =>
      obtain ⟨i, hi1, rfl, hb⟩ := hrel
      obtain rfl : i = n := by omega
      clear HB4
      go_wp2_with fail
      refine bodyPost_ret (v := .tuple #[.slice none 0 0, .slice none 0 0, .int .i64 (r3 : Int)]) (by simp [results, Tryz.results23, go_sem]) rfl ?_
      exact ⟨rfl, hb⟩
  · cases e
    have HRW := hid hr
    have HGL := hid hg
    clear hr hg
    go_wp2_with fail
    go_loopw [16, 38] (fun _ v wr => ∃ i : Nat, i ≤ n ∧ v = .int .i64 (i : Int) ∧ Below w.heap.size w wr ∧ Row wr g n) (fun _ v _ => n - (intOf v).toNat)
    case atStart => exact ⟨0, Nat.zero_le _, rfl, HB4.out, HRW.out⟩
    case round =>
      obtain ⟨i, hi1, rfl, hb, hr⟩ := hrel
      clear HRW HB4
      by_cases hin : i < n
      · obtain ⟨u, u1, u2⟩ := hr.cell hin
        have HRW := hid (hr.set i (.float .f64 4619567317775286272))
        have HBW : Hid (Below w.heap.size w (wr.setCell ⟨g, i, none⟩ (.float .f64 4619567317775286272))) := hb.setCell (p := ⟨g, i, none⟩) HGL.out _
        clear hr hb
        go_wp2_with fail
        go_roundw
        case rel => exact ⟨i + 1, by omega, by go_num, HBW.out, HRW.out⟩
        case measure => simp [intOf]; omega
      · clear hr
        go_wp2_with fail
        refine bodyPost_ret (v := .tuple #[.slice none 0 0, .slice none 0 0, .int .i64 (r3 : Int)]) (by simp [results, Tryz.results23, go_sem]) rfl ?_
        exact ⟨rfl, hb⟩
end Go.Proofs.YtonhpkigoplmaaaGreatDoor
