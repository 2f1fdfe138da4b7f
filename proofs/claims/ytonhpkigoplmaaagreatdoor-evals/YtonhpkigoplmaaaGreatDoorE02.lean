/-
  PolyE, PolyP, PolyF, LawC, LawV.
-/
import Derived.Test.YtonhpkigoplmaaaGreatDoorE01
import Derived.Test.YtonhpkigoplmaaaGreatDoorJ21
namespace Go.Proofs.YtonhpkigoplmaaaGreatDoor
open Go.RowKit Go.Extern
attribute [local go_sem] run_store_float

set_option maxHeartbeats 1000000 in
set_option maxRecDepth 100000 in
theorem evalF_bad (A : Nat → Addr) (ao : Option Addr) (n c k : Nat) (xl xh : Nat) (w : World) (hk : k ≠ 0)
    (hC : ∀ W, Below w.heap.size w W → Calls Tryz.prog 102 #[.slice ao n c] W fun e w' => ∃ v, e = .returned v ∧ ErrIs A w' v k ⟨#[]⟩ ∧ Below W.heap.size W w') :
    Calls Tryz.prog 79 #[.slice ao n c, .agg #[.float .f64 xl, .float .f64 xh]] w fun ev w' => OpR A w 0 0 k ⟨#[]⟩ ev w' := by
  have HC : Hid (∀ W, Below w.heap.size w W → Calls Tryz.prog 102 #[.slice ao n c] W fun e w' => ∃ v, e = .returned v ∧ ErrIs A w' v k ⟨#[]⟩ ∧ Below W.heap.size W w') := hC
  clear hC
  go_enter Tryz.func79, Tryz.ntmps79
  go_wp2_with fail
  have B4 := blk_new (w.alloc (Obj.cells #[.float .f64 xl, .float .f64 xh] 67)) (Obj.cells #[.float .f64 0, .float .f64 0] 67)
  have hW : Below w.heap.size w ((w.alloc (Obj.cells #[.float .f64 xl, .float .f64 xh] 67)).alloc (Obj.cells #[.float .f64 0, .float .f64 0] 67)) := ((Below.refl _ _).alloc (Nat.le_refl _) _).alloc (by simp) _
  simp only [World.size_alloc] at B4
  generalize ((w.alloc (Obj.cells #[.float .f64 xl, .float .f64 xh] 67)).alloc (Obj.cells #[.float .f64 0, .float .f64 0] 67)) = W1 at *
  refine Calls.mono (HC.out _ hW) ?_
  rintro e w1 ⟨v, rfl, hE, hb1⟩
  have HB : Hid (Below w.heap.size w w1) := hW.trans (hb1.mono hW.size)
  have HK4 : Hid (w1.heap[w.heap.size + 1]? = _) := blk_below B4 hb1
  have HE6 : Hid (ErrIs A ((w1.setCell ⟨w.heap.size + 1, 0, none⟩ (.float .f64 0)).setCell ⟨w.heap.size + 1, 1, none⟩ (.float .f64 0)) v k ⟨#[]⟩) := hE.set3 HK4.out
  obtain ⟨z0, z1, z2, z3⟩ := blk2 HK4.out
  clear B4 hW hb1 HC
  rcases hE with ⟨rfl, rfl, -⟩ | ⟨k, hk, rfl, rfl, -⟩ | ⟨k, hk, b, hr, rfl, rfl⟩
  · exact absurd rfl hk
  ·
    go_wp2_with fail
    obtain ⟨p0, p1, -, -⟩ := blk2 (blk_store2 (a := .float .f64 0) (b := .float .f64 0) HK4.out)
    refine bodyPost_ret (v := .tuple #[.agg #[.float .f64 0, .float .f64 0], .iface 229 (.pointer (some (A k)))]) (by simp [results, Tryz.results79, go_sem, p0, p1]) rfl ?_
    exact ⟨_, rfl, HE6.out, (HB.out.setCell (by simp) _).setCell (by simp) _⟩
  ·
    go_wp2_with fail
    obtain ⟨p0, p1, -, -⟩ := blk2 (blk_store2 (a := .float .f64 0) (b := .float .f64 0) HK4.out)
    refine bodyPost_ret (v := .tuple #[.agg #[.float .f64 0, .float .f64 0], .iface 136 (.pointer (some ⟨b, 0, none⟩))]) (by simp [results, Tryz.results79, go_sem, p0, p1]) rfl ?_
    exact ⟨_, rfl, HE6.out, (HB.out.setCell (by simp) _).setCell (by simp) _⟩

set_option maxHeartbeats 1000000 in
set_option maxRecDepth 100000 in
theorem evalF_good (A : Nat → Addr) (ao : Option Addr) (n c : Nat) (xl xh : Nat) (r1 r2 r3 : Nat) (rs : ByteArray) (w : World)
    (hC : ∀ W, Below w.heap.size w W → Calls Tryz.prog 102 #[.slice ao n c] W fun e w' => e = .returned .nilIface ∧ Below W.heap.size W w')
    (hH : ∀ W, Below w.heap.size w W → Calls Tryz.prog 134 #[.slice ao n c, .agg #[.float .f64 xl, .float .f64 xh]] W fun ev w' => OpR A W r1 r2 r3 rs ev w') :
    Calls Tryz.prog 79 #[.slice ao n c, .agg #[.float .f64 xl, .float .f64 xh]] w fun ev w' => OpR A w r1 r2 r3 rs ev w' := by
  have HC : Hid (∀ W, Below w.heap.size w W → Calls Tryz.prog 102 #[.slice ao n c] W fun e w' => e = .returned .nilIface ∧ Below W.heap.size W w') := hC
  have HH : Hid (∀ W, Below w.heap.size w W → Calls Tryz.prog 134 #[.slice ao n c, .agg #[.float .f64 xl, .float .f64 xh]] W fun ev w' => OpR A W r1 r2 r3 rs ev w') := hH
  clear hC hH
  go_enter Tryz.func79, Tryz.ntmps79
  go_wp2_with fail
  have B3 := blk_old (blk_new w (Obj.cells #[.float .f64 xl, .float .f64 xh] 67)) (Obj.cells #[.float .f64 0, .float .f64 0] 67)
  have B4 := blk_new (w.alloc (Obj.cells #[.float .f64 xl, .float .f64 xh] 67)) (Obj.cells #[.float .f64 0, .float .f64 0] 67)
  have hW : Below w.heap.size w ((w.alloc (Obj.cells #[.float .f64 xl, .float .f64 xh] 67)).alloc (Obj.cells #[.float .f64 0, .float .f64 0] 67)) := ((Below.refl _ _).alloc (Nat.le_refl _) _).alloc (by simp) _
  simp only [World.size_alloc] at B4
  generalize ((w.alloc (Obj.cells #[.float .f64 xl, .float .f64 xh] 67)).alloc (Obj.cells #[.float .f64 0, .float .f64 0] 67)) = W1 at *
  refine Calls.mono (HC.out _ hW) ?_
  rintro e w1 ⟨rfl, hb1⟩
  have HB : Hid (Below w.heap.size w w1) := hW.trans (hb1.mono hW.size)
  have HK4 : Hid (w1.heap[w.heap.size + 1]? = _) := blk_below B4 hb1
  obtain ⟨x0, x1, -, -⟩ := blk2 (blk_below B3 hb1)
  clear B3 B4 hW hb1 HC
  go_wp2_with fail
  refine Calls.mono (HH.out _ HB.out) ?_
  intro e w2 hR
  unfold OpR at hR
  obtain ⟨v, rfl, hE, hb2⟩ := hR
  have HB2 : Hid (Below w.heap.size w w2) := HB.out.trans (hb2.mono HB.out.size)
  have HK5 : Hid (w2.heap[w.heap.size + 1]? = _) := blk_below HK4.out hb2
  have HE : Hid (ErrIs A ((w2.setCell ⟨w.heap.size + 1, 0, none⟩ (.float .f64 r1)).setCell ⟨w.heap.size + 1, 1, none⟩ (.float .f64 r2)) v r3 rs) := hE.set3 HK5.out
  obtain ⟨z0, z1, z2, z3⟩ := blk2 HK5.out
  clear hE hb2 HB HK4 HH x0 x1
  go_wp2_with fail
  obtain ⟨p0, p1, -, -⟩ := blk2 (blk_store2 (a := .float .f64 r1) (b := .float .f64 r2) HK5.out)
  refine bodyPost_ret (v := .tuple #[.agg #[.float .f64 r1, .float .f64 r2], v]) (by simp [results, Tryz.results79, go_sem, p0, p1]) rfl ?_
  exact ⟨_, rfl, HE.out, (HB2.out.setCell (by simp) _).setCell (by simp) _⟩

theorem evalF_any (A : Nat → Addr) (ao : Option Addr) (n c : Nat) (ps : Nat → Nat) (xl xh : Nat) (w : World) (hS : Sents A w) (h : FlV w ao n ps) (hp : ∀ i, i < n → ps i < 18446744073709551616) (hn : n * 8 ≤ 140737488355328) (ix : Iv xl xh) (r : Nat × Nat × Nat × ByteArray) (hr : r = evalN ps n (plT xl) (plT xh)) :
    Calls Tryz.prog 79 #[.slice ao n c, .agg #[.float .f64 xl, .float .f64 xh]] w fun ev w' => OpR A w r.1 r.2.1 r.2.2.1 r.2.2.2 ev w' := by
  unfold evalN at hr
  have hC : ∀ W, Below w.heap.size w W → Calls Tryz.prog 102 #[.slice ao n c] W fun e w' => ∃ v, e = .returned v ∧ ErrIs A w' v (rightN ps n) ⟨#[]⟩ ∧ Below W.heap.size W w' := fun W hb => check_any A ao n c ps W (hS.below hb (Nat.le_refl _)) (h.below hb) hp hn
  by_cases h0 : rightN ps n ≠ 0
  · rw [if_pos h0] at hr
    subst hr
    exact evalF_bad A ao n c _ xl xh w h0 hC
  · rw [if_neg h0] at hr
    have h0' : rightN ps n = 0 := Decidable.not_not.1 h0
    obtain ⟨hn1, hn9, hpl⟩ := right_plain h0'
    obtain ⟨m, rfl⟩ : ∃ m, n = m + 1 := ⟨n - 1, by omega⟩
    have hk := hornK (xl := xl) (xh := xh) h0' hp
    have e : r = (fun t => hornN ps (m + 1) (plT xl) (plT xh) (m - t)) 0 := hr
    generalize (fun t => hornN ps (m + 1) (plT xl) (plT xh) (m - t)) = H at *
    subst e
    refine evalF_good A ao (m + 1) c xl xh _ _ _ _ w ?_ ?_
    · intro W hb
      refine (hC W hb).mono ?_
      rintro ev w' ⟨v, rfl, hE, hb'⟩
      rw [h0'] at hE
      exact ⟨by rw [hE.zero], hb'⟩
    · intro W hb
      obtain ⟨g, off, rfl, hg, hc⟩ := (h.below hb).resolve_left (by omega)
      exact horner_any A g off m c ps xl xh W (hS.below hb (Nat.le_refl _)) hg hc (by omega) (fun i hi W => pointF_any (ps i) W (hp i hi) (hpl i hi)) (fun i hi => iv_point (hp i hi) (hpl i hi)) ix H hk
end Go.Proofs.YtonhpkigoplmaaaGreatDoor
namespace Go.Proofs.YtonhpkigoplmaaaGreatDoor
open Go.RowKit Go.Extern Ieee
attribute [local go_sem] run_store_float

/-- The boxes of plain.Eval. -/
structure EPt (w W : World) (a b : Value) : Prop where
  k0 : W.heap[w.heap.size]? = some (.cells #[a, b] 33 (0, 0))
  k2 : W.heap[w.heap.size + 1]? = some (.cells #[.int .u64 0, .int .u64 0] 33 (0, 0))
  hb : Below w.heap.size w W
  sz : (w.heap.size + 1 + 1) ≤ W.heap.size
theorem EPt.below {w W W' : World} {a b : Value} (m : EPt w W a b) (hb : Below W.heap.size W W') : EPt w W' a b := ⟨blk_below m.k0 hb, blk_below m.k2 hb, m.hb.trans (hb.mono m.hb.size), Nat.le_trans m.sz hb.size⟩
theorem EPt.alloc {w W : World} {a b : Value} (m : EPt w W a b) (o : Obj) : EPt w (W.alloc o) a b := m.below ((Below.refl _ _).alloc (Nat.le_refl _) o)
theorem EPt.drew {w W : World} {a b : Value} (m : EPt w W a b) : EPt w W.drew a b := ⟨m.k0, m.k2, m.hb.drew, m.sz⟩
theorem EPt.cells {w W : World} {a b : Value} (m : EPt w W a b) : W.cell? ⟨w.heap.size, 0, none⟩ = some a ∧ W.cell? ⟨w.heap.size, 1, none⟩ = some b := by
  obtain ⟨x0, x1, -, -⟩ := blk2 m.k0
  exact ⟨x0, x1⟩
theorem EPt.set2 {w W : World} {a b : Value} {g : Nat} (m : EPt w W a b) (h : (w.heap.size + 1 + 1) ≤ g) (x y : Value) : EPt w ((W.setCell ⟨g, 0, none⟩ x).setCell ⟨g, 1, none⟩ y) a b := by
  have e0 : w.heap.size ≠ g := by omega
  have e2 : w.heap.size + 1 ≠ g := by omega
  have e3 : w.heap.size ≤ g := by omega
  exact ⟨blk_set_ne (blk_set_ne m.k0 e0) e0, blk_set_ne (blk_set_ne m.k2 e2) e2, (m.hb.setCell (by exact e3) _).setCell (by exact e3) _, by simp only [World.size_setCell]; exact m.sz⟩

set_option maxRecDepth 100000 in
set_option maxHeartbeats 8000000 in
theorem plainEval_any (A : Nat → Addr) (ao : Option Addr) (n c : Nat) (ps : Nat → Nat) (xl xh al ah r1 r2 r3 : Nat) (rs : ByteArray) (w : World) (hS : Sents A w)
    (hf : ∀ W, Below w.heap.size w W → Calls Tryz.prog 52 #[.slice ao n c] W fun e w' => ∃ bo bc, e = .returned (.slice bo n bc) ∧ FlV w' bo n ps ∧ Below W.heap.size W w')
    (hx : ∀ w, Sents A w → Calls Tryz.prog 40 #[.agg #[.int .u64 (xl : Int), .int .u64 (xh : Int)]] w fun e w' => e = .returned (.agg #[.float .f64 al, .float .f64 ah]) ∧ Below w.heap.size w w')
    (h : ∀ W bo bc, Sents A W → FlV W bo n ps → Calls Tryz.prog 79 #[.slice bo n bc, .agg #[.float .f64 al, .float .f64 ah]] W fun ev w' => OpR A W r1 r2 r3 rs ev w') :
    Calls Tryz.prog 34 #[.slice ao n c, .agg #[.int .u64 (xl : Int), .int .u64 (xh : Int)]] w fun e w' => e = .returned (.tuple #[.agg #[.int .u64 (r1 : Int), .int .u64 (r2 : Int)], .int .i64 (r3 : Int), .string rs]) ∧ Below w.heap.size w w' := by
  have HFL : Hid (∀ W, Below w.heap.size w W → Calls Tryz.prog 52 #[.slice ao n c] W fun e w' => ∃ bo bc, e = .returned (.slice bo n bc) ∧ FlV w' bo n ps ∧ Below W.heap.size W w') := hf
  have HX : Hid (∀ W, Below w.heap.size w W → Calls Tryz.prog 40 #[.agg #[.int .u64 (xl : Int), .int .u64 (xh : Int)]] W fun e w' => e = .returned (.agg #[.float .f64 al, .float .f64 ah]) ∧ Below W.heap.size W w') := fun W hb => hx W (hS.below hb (Nat.le_refl _))
  have HA : Hid (∀ (W : World) (bo : Option Addr) (bc : Nat), Below w.heap.size w W → FlV W bo n ps → Calls Tryz.prog 79 #[.slice bo n bc, .agg #[.float .f64 al, .float .f64 ah]] W fun ev w' => OpR A W r1 r2 r3 rs ev w') := fun W bo bc hb hf => h W bo bc (hS.below hb (Nat.le_refl _)) hf
  have HBX : Hid (∀ W : World, Calls Tryz.prog 50 #[.agg #[.float .f64 r1, .float .f64 r2]] W fun e w' => e = .returned (.agg #[.int .u64 (r1 : Int), .int .u64 (r2 : Int)]) ∧ Below W.heap.size W w') := fun W => box_any r1 r2 W
  have HCD : Hid (∀ (W : World) (v : Value), Below w.heap.size w W → ErrIs A W v r3 rs → Calls Tryz.prog 49 #[v] W fun e w' => e = .returned (.tuple #[.int .i64 (r3 : Int), .string rs]) ∧ Below W.heap.size W w') := fun W v hb he => code_any A v r3 rs W (hS.below hb (Nat.le_refl _)) he
  clear hf hx hS h
  go_enter Tryz.func34, Tryz.ntmps34
  go_wp2_with fail
  have m0 : Hid (EPt w ((w.alloc (Obj.cells #[.int .u64 (xl : Int), .int .u64 (xh : Int)] 33)).alloc (Obj.cells #[.int .u64 0, .int .u64 0] 33)) (.int .u64 (xl : Int)) (.int .u64 (xh : Int))) := by
    have B0 := blk_old (blk_new w (Obj.cells #[.int .u64 (xl : Int), .int .u64 (xh : Int)] 33)) (Obj.cells #[.int .u64 0, .int .u64 0] 33)
    have B2 := blk_new (w.alloc (Obj.cells #[.int .u64 (xl : Int), .int .u64 (xh : Int)] 33)) (Obj.cells #[.int .u64 0, .int .u64 0] 33)
    simp only [World.size_alloc] at B2
    exact ⟨B0, B2, ((Below.refl _ _).alloc (Nat.le_refl _) _).alloc (by simp) _, by simp⟩
  generalize ((w.alloc (Obj.cells #[.int .u64 (xl : Int), .int .u64 (xh : Int)] 33)).alloc (Obj.cells #[.int .u64 0, .int .u64 0] 33)) = W2 at *
  go_cut [7, 8] (fun s9 s10 wc => ∃ g, s9 = .pointer (some ⟨g, 0, none⟩) ∧ EPt w wc (.int .u64 (xl : Int)) (.int .u64 (xh : Int)) ∧ IBox (w.heap.size + 1 + 1) wc g r1 r2 ∧ ErrIs A wc s10 r3 rs)
  case first =>
    have iN : Hid (EPt w W2.drew (.int .u64 (xl : Int)) (.int .u64 (xh : Int))) := m0.out.drew
    go_region_held3 (fun W => W.cell? ⟨w.heap.size, 0, none⟩ = some (.int .u64 (xl : Int)) ∧ W.cell? ⟨w.heap.size, 1, none⟩ = some (.int .u64 (xh : Int))) (first | with_reducible exact iN.out.cells | with_reducible exact (m0.out.alloc _).drew.cells | with_reducible exact (iN.out.alloc _).cells | with_reducible exact (iN.out.set2 zf.out.le _ _).cells)
      (first
        | (go_at_call 52; with_reducible (refine Calls.mono (HFL.out _ ?_) ?_); (with_reducible exact iN.out.hb); rintro e v0 ⟨bo, bc, rfl, hfl, hbk⟩
           have NF : Hid (FlV v0 bo n ps) := hfl
           clear hfl
           have iN : Hid (EPt w v0 (.int .u64 (xl : Int)) (.int .u64 (xh : Int))) := iN.out.below hbk
           clear hbk)
        | (go_at_call 52; with_reducible (refine Calls.mono (HFL.out _ ?_) ?_); (with_reducible exact (m0.out.alloc _).drew.hb); rintro e v0 ⟨bo, bc, rfl, hfl, hbk⟩
           have zf : Hid (IBox (w.heap.size + 1 + 1) v0 _ 0 0) := (IBox.new m0.out.sz).drew.below hbk
           have NF : Hid (FlV v0 bo n ps) := hfl
           clear hfl
           have iN : Hid (EPt w v0 (.int .u64 (xl : Int)) (.int .u64 (xh : Int))) := (m0.out.alloc _).drew.below hbk
           clear hbk)
        | (go_at_call 40; with_reducible (refine Calls.mono (HX.out _ ?_) ?_); (with_reducible exact iN.out.hb); rintro e v1 ⟨rfl, hbk⟩
           try (have zf : Hid (IBox (w.heap.size + 1 + 1) v1 _ 0 0) := zf.out.below hbk)
           have NF : Hid (FlV v1 bo n ps) := NF.out.below hbk
           have iN : Hid (EPt w v1 (.int .u64 (xl : Int)) (.int .u64 (xh : Int))) := iN.out.below hbk
           clear hbk)
        | (go_at_call 40; with_reducible (refine Calls.mono (HX.out _ ?_) ?_); (with_reducible exact (iN.out.alloc _).hb); rintro e v1 ⟨rfl, hbk⟩
           have zf : Hid (IBox (w.heap.size + 1 + 1) v1 _ 0 0) := (IBox.new iN.out.sz).below hbk
           have NF : Hid (FlV v1 bo n ps) := (NF.out.below ((Below.refl _ _).alloc (Nat.le_refl _) _)).below hbk
           have iN : Hid (EPt w v1 (.int .u64 (xl : Int)) (.int .u64 (xh : Int))) := (iN.out.alloc _).below hbk
           clear hbk)
        | (go_at_call 79; with_reducible (refine Calls.mono (HA.out _ bo bc ?_ ?_) ?_); (with_reducible exact iN.out.hb); (exact NF.out); (intro e v2 h); (unfold OpR at h); (obtain ⟨v, rfl, hE, hbk⟩ := h)
           try (have zf : Hid (IBox (w.heap.size + 1 + 1) v2 _ 0 0) := zf.out.below hbk; obtain ⟨zc0, zc1, zc2, zc3⟩ := blk2 zf.out.1)
           have HE : Hid (ErrIs A v2 v r3 rs) := hE
           clear hE
           have iN : Hid (EPt w v2 (.int .u64 (xl : Int)) (.int .u64 (xh : Int))) := iN.out.below hbk
           clear hbk)
        | (go_at_call 79; with_reducible (refine Calls.mono (HA.out _ bo bc ?_ ?_) ?_); (with_reducible exact (iN.out.alloc _).hb); (exact (NF.out.below ((Below.refl _ _).alloc (Nat.le_refl _) _))); (intro e v2 h); (unfold OpR at h); (obtain ⟨v, rfl, hE, hbk⟩ := h)
           have zf : Hid (IBox (w.heap.size + 1 + 1) v2 _ 0 0) := (IBox.new iN.out.sz).below hbk
           obtain ⟨zc0, zc1, zc2, zc3⟩ := blk2 zf.out.1
           have HE : Hid (ErrIs A v2 v r3 rs) := hE
           clear hE
           have iN : Hid (EPt w v2 (.int .u64 (xl : Int)) (.int .u64 (xh : Int))) := (iN.out.alloc _).below hbk
           clear hbk))
    all_goals (go_wp2_with fail; go_meet; refine ⟨_, rfl, ?_, ?_, ?_⟩)
    all_goals first | with_reducible exact iN.out.set2 zf.out.le _ _ | with_reducible exact zf.out.same _ _ | with_reducible exact HE.out.set2 zf.out | with_reducible exact iN.out.alloc _ | with_reducible exact IBox.new iN.out.sz | with_reducible exact HE.out.alloc _
  case rest =>
    clear HX HFL HA m0
    obtain ⟨gc, rfl, hP, hI, hE⟩ := hcut
    have MP : Hid (EPt w wc (.int .u64 (xl : Int)) (.int .u64 (xh : Int))) := hP
    have IC : Hid (IBox (w.heap.size + 1 + 1) wc gc r1 r2) := hI
    have HE : Hid (ErrIs A wc _ r3 rs) := hE
    clear hP hI hE
    go_wp2_with fail
    refine Calls.mono (HCD.out _ _ MP.out.hb HE.out) ?_
    rintro e w7 ⟨rfl, hb7⟩
    have IC7 : Hid (IBox (w.heap.size + 1 + 1) w7 gc r1 r2) := IC.out.below hb7
    have MP7 : Hid (EPt w w7 _ _) := MP.out.below hb7
    clear hb7 IC MP HE
    obtain ⟨c0, c1, -, -⟩ := blk2 IC7.out.1
    go_wp2_with fail
    refine Calls.mono (HBX.out _) ?_
    rintro e w8 ⟨rfl, hb8⟩
    have MP8 : Hid (EPt w w8 _ _) := MP7.out.below hb8
    clear hb8 MP7 IC7 c0 c1
    obtain ⟨d0, d1, d2, d3⟩ := blk2 MP8.out.k2
    go_wp2_with fail
    obtain ⟨p0, p1, -, -⟩ := blk2 (blk_store2 (a := .int .u64 (r1 : Int)) (b := .int .u64 (r2 : Int)) MP8.out.k2)
    refine bodyPost_ret (v := .tuple #[.agg #[.int .u64 (r1 : Int), .int .u64 (r2 : Int)], .int .i64 (r3 : Int), .string rs]) (by simp [results, Tryz.results34, go_sem, p0, p1]) rfl ?_
    exact ⟨rfl, (MP8.out.hb.setCell (by simp) _).setCell (by simp) _⟩

theorem plainEval_ref (A : Nat → Addr) (ao : Option Addr) (n c : Nat) (ps : Nat → Nat) (xl xh : Nat) (w : World) (hS : Sents A w) (h : WdV w ao n ps) (hn : n * 8 ≤ 140737488355328) (h1 : xl < 18446744073709551616) (h2 : xh < 18446744073709551616) (al ah : Nat) (e1 : al = (makeN xl xh).1) (e2 : ah = (makeN xl xh).2.1) (r : Nat × Nat × Nat × ByteArray) (hr : r = evalN ps n (plT al) (plT ah)) :
    Calls Tryz.prog 34 #[.slice ao n c, .agg #[.int .u64 (xl : Int), .int .u64 (xh : Int)]] w fun e w' => e = .returned (.tuple #[.agg #[.int .u64 (r.1 : Int), .int .u64 (r.2.1 : Int)], .int .i64 (r.2.2.1 : Int), .string r.2.2.2]) ∧ Below w.heap.size w w' := by
  have ix : Iv al ah := by rw [e1, e2]; exact made_iv xl xh h1 h2
  refine plainEval_any A ao n c ps xl xh al ah _ _ _ _ w hS (fun W hb => floats_any ao n c ps W (h.below hb) hn) ?_ (fun W bo bc hS hf => evalF_any A bo n bc ps al ah W hS hf h.1 hn ix r hr)
  intro w hS; rw [e1, e2]; exact made_any A xl xh w h1 h2 hS
end Go.Proofs.YtonhpkigoplmaaaGreatDoor
namespace Go.Proofs.YtonhpkigoplmaaaGreatDoor
open Go.RowKit

theorem hid {p : Prop} (h : p) : Hid p := h

/-- The boxes of encloseref.Eval. -/
structure RSt (w W : World) (gr xl xh rl rh : Nat) : Prop where
  k3 : W.heap[w.heap.size]? = some (.cells #[.int .u64 (xl : Int), .int .u64 (xh : Int)] 28 (0, 0))
  k4 : W.heap[w.heap.size + 1]? = some (.cells #[.int .u64 0, .int .u64 0] 28 (0, 0))
  kr : W.heap[gr]? = some (.cells #[.int .u64 (rl : Int), .int .u64 (rh : Int)] 28 (0, 0))
  hb : Below w.heap.size w W
  lr : w.heap.size + 1 < gr
theorem RSt.below {w W W' : World} {gr xl xh rl rh : Nat} (m : RSt w W gr xl xh rl rh) (hb : Below W.heap.size W W') : RSt w W' gr xl xh rl rh := ⟨blk_below m.k3 hb, blk_below m.k4 hb, blk_below m.kr hb, m.hb.trans (hb.mono m.hb.size), m.lr⟩
theorem RSt.alloc {w W : World} {gr xl xh rl rh : Nat} (m : RSt w W gr xl xh rl rh) (o : Obj) : RSt w (W.alloc o) gr xl xh rl rh := m.below ((Below.refl _ _).alloc (Nat.le_refl _) o)
theorem RSt.set {w W : World} {gr xl xh rl rh : Nat} (m : RSt w W gr xl xh rl rh) (x y : Nat) : RSt w ((W.setCell ⟨gr, 0, none⟩ (.int .u64 (x : Int))).setCell ⟨gr, 1, none⟩ (.int .u64 (y : Int))) gr xl xh x y := by
  have e := m.lr
  have e3 : w.heap.size ≠ gr := by omega
  have e4 : w.heap.size + 1 ≠ gr := by omega
  have e5 : w.heap.size ≤ gr := by omega
  exact ⟨blk_set_ne (blk_set_ne m.k3 e3) e3, blk_set_ne (blk_set_ne m.k4 e4) e4, blk_store2 m.kr, (m.hb.setCell (by exact e5) _).setCell (by exact e5) _, m.lr⟩

set_option maxHeartbeats 4000000 in
set_option maxRecDepth 100000 in
theorem refEval_good (g off m c : Nat) (ps : Nat → Nat) (xl xh al ah : Nat) (w : World) (hg : g < w.heap.size) (hc : ∀ i, i < m + 1 → w.cell? ⟨g, off + i, none⟩ = some (.int .u64 (ps i : Int))) (hm9 : m < 9)
    (hR : ∀ W, Below w.heap.size w W → Calls Tryz.prog 80 #[.slice (some ⟨g, off, none⟩) (m + 1) c] W fun e w' => e = .returned (.int .i64 0) ∧ Below W.heap.size W w')
    (hP : ∀ i, i < m + 1 → ∀ W : World, Calls Tryz.prog 81 #[.int .u64 (ps i : Int)] W fun e w' => e = .returned (.agg #[.int .u64 (posW (ps i) : Int), .int .u64 (posW (ps i) : Int)]) ∧ Below W.heap.size W w')
    (hO5 : ∀ l h, Iv l h → ∀ W : World, Calls Tryz.prog 29 #[.int .i64 5, .agg #[.int .u64 (l : Int), .int .u64 (h : Int)], .agg #[.int .u64 (xl : Int), .int .u64 (xh : Int)]] W fun e w' => e = .returned (.tuple #[.agg #[.int .u64 ((refOpN 5 (plT l) (plT h) (plT al) (plT ah)).1 : Int), .int .u64 ((refOpN 5 (plT l) (plT h) (plT al) (plT ah)).2.1 : Int)], .int .i64 ((refOpN 5 (plT l) (plT h) (plT al) (plT ah)).2.2.1 : Int), .string (refOpN 5 (plT l) (plT h) (plT al) (plT ah)).2.2.2]) ∧ Below W.heap.size W w')
    (hO3 : ∀ l h, Iv l h → ∀ i, i < m + 1 → ∀ W : World, Calls Tryz.prog 29 #[.int .i64 3, .agg #[.int .u64 (l : Int), .int .u64 (h : Int)], .agg #[.int .u64 (posW (ps i) : Int), .int .u64 (posW (ps i) : Int)]] W fun e w' => e = .returned (.tuple #[.agg #[.int .u64 ((refOpN 3 (plT l) (plT h) (plT (posW (ps i))) (plT (posW (ps i)))).1 : Int), .int .u64 ((refOpN 3 (plT l) (plT h) (plT (posW (ps i))) (plT (posW (ps i)))).2.1 : Int)], .int .i64 ((refOpN 3 (plT l) (plT h) (plT (posW (ps i))) (plT (posW (ps i)))).2.2.1 : Int), .string (refOpN 3 (plT l) (plT h) (plT (posW (ps i))) (plT (posW (ps i)))).2.2.2]) ∧ Below W.heap.size W w')
    (H : Nat → Nat × Nat × Nat × ByteArray) (hH : HornK ps m al ah H) :
    Calls Tryz.prog 36 #[.slice (some ⟨g, off, none⟩) (m + 1) c, .agg #[.int .u64 (xl : Int), .int .u64 (xh : Int)]] w fun e w' => e = .returned (.tuple #[.agg #[.int .u64 ((H 0).1 : Int), .int .u64 ((H 0).2.1 : Int)], .int .i64 ((H 0).2.2.1 : Int), .string (H 0).2.2.2]) ∧ Below w.heap.size w w' := by
  have HC : Hid (∀ i, i < m + 1 → w.cell? ⟨g, off + i, none⟩ = some (.int .u64 (ps i : Int))) := hc
  have HG : Hid (g < w.heap.size) := hg
  have HR := hid hR
  have HP := hid hP
  have HO5 := hid hO5
  have HO3 := hid hO3
  have HK : Hid (HornK ps m al ah H) := hH
  clear hR hP hO5 hO3 hH
  go_enter Tryz.func36, Tryz.ntmps36
  go_wp2_with fail
  have B3 := blk_old (blk_new w (Obj.cells #[.int .u64 (xl : Int), .int .u64 (xh : Int)] 28)) (Obj.cells #[.int .u64 0, .int .u64 0] 28)
  have B4 := blk_new (w.alloc (Obj.cells #[.int .u64 (xl : Int), .int .u64 (xh : Int)] 28)) (Obj.cells #[.int .u64 0, .int .u64 0] 28)
  have hW : Below w.heap.size w ((w.alloc (Obj.cells #[.int .u64 (xl : Int), .int .u64 (xh : Int)] 28)).alloc (Obj.cells #[.int .u64 0, .int .u64 0] 28)) := ((Below.refl _ _).alloc (Nat.le_refl _) _).alloc (by simp) _
  have hsz : w.heap.size + 1 < ((w.alloc (Obj.cells #[.int .u64 (xl : Int), .int .u64 (xh : Int)] 28)).alloc (Obj.cells #[.int .u64 0, .int .u64 0] 28)).heap.size := by simp
  simp only [World.size_alloc] at B4
  generalize ((w.alloc (Obj.cells #[.int .u64 (xl : Int), .int .u64 (xh : Int)] 28)).alloc (Obj.cells #[.int .u64 0, .int .u64 0] 28)) = W1 at *
  refine Calls.mono (HR.out _ hW) ?_
  rintro e w0 ⟨rfl, hb0⟩
  have hW0 : Below w.heap.size w w0 := hW.trans (hb0.mono hW.size)
  have B30 := blk_below B3 hb0
  have B40 := blk_below B4 hb0
  have hsz0 := Nat.lt_of_lt_of_le hsz hb0.size
  have h0 : w0.cell? ⟨g, off + m, none⟩ = some (.int .u64 (ps m : Int)) := by rw [hW0.cell (by exact hg)]; exact hc m (by omega)
  clear hW B3 B4 hsz hb0 hc HR
  go_wp2_with fail
  refine Calls.mono (HP.out m (by omega) _) ?_
  rintro e w1 ⟨rfl, hb1⟩
  have M1 : Hid (RSt w (w1.alloc (Obj.cells #[.int .u64 (posW (ps m) : Int), .int .u64 (posW (ps m) : Int)] 28)) w1.heap.size xl xh (posW (ps m)) (posW (ps m))) := ⟨blk_old (blk_below B30 hb1) _, blk_old (blk_below B40 hb1) _, blk_new w1 _, (hW0.trans (hb1.mono hW0.size)).alloc (Nat.le_trans hW0.size hb1.size) _, Nat.lt_of_lt_of_le hsz0 hb1.size⟩
  clear B30 B40 hW0 hsz0 hb1 h0
  go_wp2_with fail
  generalize hgr : w1.heap.size = gr at *
  generalize (w1.alloc (Obj.cells #[.int .u64 (posW (ps m) : Int), .int .u64 (posW (ps m) : Int)] 28)) = W2 at *
  clear hgr
  go_loopw [9, 10, 11, 12, 13, 14] (fun x _ _ _ _ _ wr => ∃ t : Nat, t ≤ m ∧ x = .int .i64 ((t : Int) - 1) ∧ (H t).2.2.1 = 0 ∧ RSt w wr gr xl xh (H t).1 (H t).2.1) (fun x _ _ _ _ _ _ => (intOf x + 1).toNat)
  case atStart =>
    refine ⟨m, Nat.le_refl _, by first | rfl | go_num, ?_, ?_⟩
    · rw [HK.out.first]
    · rw [HK.out.first]; exact M1.out
  case round =>
    obtain ⟨t, ht, rfl, hcode, hm⟩ := hrel
    clear M1
    cases t with
    | zero =>
      have HM : Hid (RSt w wr gr xl xh (H 0).1 (H 0).2.1) := hm
      have HCD : Hid ((H 0).2.2.1 = 0) := hcode
      obtain ⟨x0, x1, -, -⟩ := blk2 hm.kr
      obtain ⟨z0, z1, z2, z3⟩ := blk2 hm.k4
      clear hm hcode
      go_wp2_with fail
      obtain ⟨p0, p1, -, -⟩ := blk2 (blk_store2 (a := .int .u64 ((H 0).1 : Int)) (b := .int .u64 ((H 0).2.1 : Int)) HM.out.k4)
      refine bodyPost_ret (v := .tuple #[.agg #[.int .u64 ((H 0).1 : Int), .int .u64 ((H 0).2.1 : Int)], .int .i64 0, .string ⟨#[]⟩]) (by simp [results, Tryz.results36, go_sem, p0, p1]) rfl ?_
      rw [HCD.out, HK.out.name 0 HCD.out]
      exact ⟨rfl, (HM.out.hb.setCell (by simp) _).setCell (by simp) _⟩
    | succ t =>
      have hct : wr.cell? ⟨g, off + t, none⟩ = some (.int .u64 (ps t : Int)) := by rw [hm.hb.cell (by exact HG.out)]; exact HC.out t (by omega)
      have iv := HK.out.iv (t + 1) ht hcode
      have HB : Hid ((refOpN 5 (plT (H (t + 1)).1) (plT (H (t + 1)).2.1) (plT al) (plT ah)).2.2.1 ≠ 0 → H t = refOpN 5 (plT (H (t + 1)).1) (plT (H (t + 1)).2.1) (plT al) (plT ah)) := fun h => (HK.out.step t (by omega)).trans (hstep_bad hcode h)
      have HGD : Hid ((refOpN 5 (plT (H (t + 1)).1) (plT (H (t + 1)).2.1) (plT al) (plT ah)).2.2.1 = 0 → H t = refOpN 3 (plT (refOpN 5 (plT (H (t + 1)).1) (plT (H (t + 1)).2.1) (plT al) (plT ah)).1) (plT (refOpN 5 (plT (H (t + 1)).1) (plT (H (t + 1)).2.1) (plT al) (plT ah)).2.1) (plT (posW (ps t))) (plT (posW (ps t)))) := fun h => (HK.out.step t (by omega)).trans (hstep_good hcode h)
      have HMUL := hid (HO5.out _ _ iv)
      have HIM : Hid ((refOpN 5 (plT (H (t + 1)).1) (plT (H (t + 1)).2.1) (plT al) (plT ah)).2.2.1 = 0 → Iv (refOpN 5 (plT (H (t + 1)).1) (plT (H (t + 1)).2.1) (plT al) (plT ah)).1 (refOpN 5 (plT (H (t + 1)).1) (plT (H (t + 1)).2.1) (plT al) (plT ah)).2.1) := iv_mul
      have HADD0 := hid (fun h : (refOpN 5 (plT (H (t + 1)).1) (plT (H (t + 1)).2.1) (plT al) (plT ah)).2.2.1 = 0 => HO3.out _ _ (HIM.out h) t (by omega))
      have HM : Hid (RSt w wr gr xl xh (H (t + 1)).1 (H (t + 1)).2.1) := hm
      have HPT := hid (HP.out t (by omega))
      obtain ⟨x0, x1, -, -⟩ := blk2 hm.kr
      obtain ⟨y0, y1, -, -⟩ := blk2 hm.k3
      have lx := lt_of_row hm.kr
      have ly := lt_of_row hm.k3
      clear hm hcode iv HP HC HO5 HO3
      generalize refOpN 5 (plT (H (t + 1)).1) (plT (H (t + 1)).2.1) (plT al) (plT ah) = rm at *
      generalize (H (t + 1)).1 = rl at *
      generalize (H (t + 1)).2.1 = rh at *
      obtain ⟨m1, m2, m3, ms⟩ := rm
      simp only at HB HGD HMUL HIM HADD0
      go_wp2_with fail
      refine wp_loop_rounds 3 ?_
      rw [rounds_succ]
      go_wp2_with fail
      refine Calls.mono (HMUL.out _) ?_
      rintro e w3 ⟨rfl, hb3⟩
      have hbA : Below wr.heap.size wr w3 := ((Below.refl _ wr).alloc (Nat.le_refl _) (Obj.cells #[.int .u64 (xl : Int), .int .u64 (xh : Int)] 28)).trans (hb3.mono (by simp))
      have M3 : Hid (RSt w w3 gr xl xh rl rh) := HM.out.below hbA
      have hct3 : w3.cell? ⟨g, off + t, none⟩ = some (.int .u64 (ps t : Int)) := by rw [hbA.cell (by have := HM.out.hb.size; have := HG.out; simp; omega)]; exact hct
      have HF : Hid (m3 ≠ 0 → (H 0).1 = 0 ∧ (H 0).2.1 = 0 ∧ (H 0).2.2.1 = m3 ∧ (H 0).2.2.2 = ms) := fun h => by
        have e := HB.out h
        have hc : (H t).2.2.1 ≠ 0 := by rw [e]; exact h
        obtain ⟨z1, z2⟩ := HK.out.zero t (by omega) hc
        rw [HK.out.stick t (by omega) hc]
        exact ⟨z1, z2, by rw [e], by rw [e]⟩
      clear hb3 hbA hct x0 x1 y0 y1 lx ly HM HMUL
      by_cases hz : m3 = 0
      · subst hz
        have HGE := HGD.out rfl
        have HADD := hid (HADD0.out rfl)
        rw [← HGE] at HADD
        have HFN : Hid ((H t).2.2.1 ≠ 0 → (H 0).1 = 0 ∧ (H 0).2.1 = 0 ∧ (H 0).2.2.1 = (H t).2.2.1 ∧ (H 0).2.2.2 = (H t).2.2.2) := fun h => by
          obtain ⟨z1, z2⟩ := HK.out.zero t (by omega) h
          rw [HK.out.stick t (by omega) h]
          exact ⟨z1, z2, rfl, rfl⟩
        obtain ⟨x0, x1, x2, x3⟩ := blk2 M3.out.kr
        have lx := lt_of_row M3.out.kr
        clear HGE HF HB HGD HIM HADD0
        generalize posW (ps t) = q at *
        generalize hHt : H t = ra at *
        obtain ⟨a1, a2, a3, as_⟩ := ra
        simp only at HADD HFN
        have M4 : Hid (RSt w (((w3.setCell ⟨gr, 0, none⟩ (.int .u64 (m1 : Int))).setCell ⟨gr, 1, none⟩ (.int .u64 (m2 : Int))).alloc (Obj.cells #[.int .u64 (m1 : Int), .int .u64 (m2 : Int)] 28)) gr xl xh m1 m2) := (M3.out.set _ _).alloc _
        have hne : g ≠ gr := by have := M3.out.lr; have := HG.out; omega
        have hct4 : (((w3.setCell ⟨gr, 0, none⟩ (.int .u64 (m1 : Int))).setCell ⟨gr, 1, none⟩ (.int .u64 (m2 : Int))).alloc (Obj.cells #[.int .u64 (m1 : Int), .int .u64 (m2 : Int)] 28)).cell? ⟨g, off + t, none⟩ = some (.int .u64 (ps t : Int)) := by
          rw [World.cell?_of_block (Below.heap_alloc _ _ _ (by have := M3.out.hb.size; have := HG.out; simp; omega)), cell_set_ne hne, cell_set_ne hne]
          exact hct3
        go_wp2_with fail
        clear x0 x1 x2 x3 lx hne hct3 M3
        generalize (((w3.setCell ⟨gr, 0, none⟩ (.int .u64 (m1 : Int))).setCell ⟨gr, 1, none⟩ (.int .u64 (m2 : Int))).alloc (Obj.cells #[.int .u64 (m1 : Int), .int .u64 (m2 : Int)] 28)) = W5 at *
        obtain ⟨y0, y1, -, -⟩ := blk2 M4.out.k3
        have ti1 : (t : Int) < (m : Int) + 1 := by omega
        have ti2 : t < m + 1 := by omega
        have ti3 : (0 : Int) ≤ (t : Int) := by omega
        have lg : g < W5.heap.size := Nat.lt_of_lt_of_le HG.out M4.out.hb.size
        rw [rounds_succ]
        go_wp2_with fail
        refine Calls.mono (HPT.out _) ?_
        rintro e w6 ⟨rfl, hb6⟩
        have KY : Hid (w6.heap[W5.heap.size]? = _) := blk_below (blk_new W5 (Obj.cells #[.int .u64 (xl : Int), .int .u64 (xh : Int)] 28)) hb6
        have M6 : Hid (RSt w w6 gr xl xh m1 m2) := (M4.out.alloc _).below hb6
        have hne6 : gr ≠ W5.heap.size := Nat.ne_of_lt (lt_of_row M4.out.kr)
        have hne7 : w.heap.size ≤ W5.heap.size := M4.out.hb.size
        have n3 : w.heap.size ≠ W5.heap.size := by have := M4.out.lr; have := lt_of_row M4.out.kr; omega
        have n4 : w.heap.size + 1 ≠ W5.heap.size := by have := M4.out.lr; have := lt_of_row M4.out.kr; omega
        generalize W5.heap.size = gy at *
        obtain ⟨y0, y1, y2, y3⟩ := blk2 KY.out
        have ly := lt_of_row KY.out
        have M7 : Hid (RSt w ((w6.setCell ⟨gy, 0, none⟩ (.int .u64 (q : Int))).setCell ⟨gy, 1, none⟩ (.int .u64 (q : Int))) gr xl xh m1 m2) := ⟨blk_set_ne (blk_set_ne M6.out.k3 n3) n3, blk_set_ne (blk_set_ne M6.out.k4 n4) n4, blk_set_ne (blk_set_ne M6.out.kr hne6) hne6, (M6.out.hb.setCell (by exact hne7) _).setCell (by exact hne7) _, M6.out.lr⟩
        obtain ⟨r0, r1, -, -⟩ := blk2 M7.out.kr
        obtain ⟨s0, s1, -, -⟩ := blk2 (blk_store2 (a := .int .u64 (q : Int)) (b := .int .u64 (q : Int)) KY.out)
        clear hb6 M4 hct4 HPT ti1 ti2 ti3 lg M6 KY hne6 hne7 n3 n4
        go_wp2_with fail
        clear y0 y1 y2 y3 ly r0 r1 s0 s1
        generalize ((w6.setCell ⟨gy, 0, none⟩ (.int .u64 (q : Int))).setCell ⟨gy, 1, none⟩ (.int .u64 (q : Int))) = W7 at *
        refine Calls.mono (HADD.out _) ?_
        rintro e w8 ⟨rfl, hb8⟩
        have M8 : Hid (RSt w w8 gr xl xh m1 m2) := M7.out.below hb8
        clear hb8 M7 HADD
        by_cases hz : a3 = 0
        · subst hz
          have M9 : Hid (RSt w (((w8.setCell ⟨gr, 0, none⟩ (.int .u64 (a1 : Int))).setCell ⟨gr, 1, none⟩ (.int .u64 (a2 : Int))).alloc (Obj.cells #[.int .u64 (a1 : Int), .int .u64 (a2 : Int)] 28)) gr xl xh a1 a2) := (M8.out.set _ _).alloc _
          obtain ⟨x0, x1, x2, x3⟩ := blk2 M8.out.kr
          have lx := lt_of_row M8.out.kr
          clear HFN
          go_wp2_with fail
          rw [rounds_succ]
          go_wp2_with fail
          go_roundw
          case rel => exact ⟨t, by omega, by go_num, by rw [hHt], by rw [hHt]; exact M9.out⟩
          case measure => first | (simp [intOf]; done) | (simp [intOf]; omega)
        · have HFF : Hid ((H 0).1 = 0 ∧ (H 0).2.1 = 0 ∧ (H 0).2.2.1 = a3 ∧ (H 0).2.2.2 = as_) := HFN.out hz
          obtain ⟨z0, z1, z2, z3⟩ := blk2 M8.out.k4
          have lz := lt_of_row M8.out.k4
          have hz' : ¬ (a3 : Int) = 0 := by omega
          clear HFN
          go_wp2_with fail
          obtain ⟨p0, p1, -, -⟩ := blk2 (blk_old (blk_store2 (a := .int .u64 0) (b := .int .u64 0) M8.out.k4) (Obj.cells #[.int .u64 (a1 : Int), .int .u64 (a2 : Int)] 28))
          refine bodyPost_ret (v := .tuple #[.agg #[.int .u64 0, .int .u64 0], .int .i64 (a3 : Int), .string as_]) (by simp [results, Tryz.results36, go_sem, p0, p1]) rfl ?_
          obtain ⟨f1, f2, f3, f4⟩ := HFF.out
          rw [f1, f2, f3, f4]
          exact ⟨rfl, ((M8.out.hb.setCell (by simp) _).setCell (by simp) _).alloc (by have := M8.out.hb.size; simp; omega) _⟩
      · have hFF := HF.out hz
        have HFF : Hid ((H 0).1 = 0 ∧ (H 0).2.1 = 0 ∧ (H 0).2.2.1 = m3 ∧ (H 0).2.2.2 = ms) := hFF
        obtain ⟨z0, z1, z2, z3⟩ := blk2 M3.out.k4
        have lz := lt_of_row M3.out.k4
        have hz' : ¬ (m3 : Int) = 0 := by omega
        clear HF HB HGD HIM HPT HADD0 hct3 hFF
        go_wp2_with fail
        obtain ⟨p0, p1, -, -⟩ := blk2 (blk_old (blk_store2 (a := .int .u64 0) (b := .int .u64 0) M3.out.k4) (Obj.cells #[.int .u64 (m1 : Int), .int .u64 (m2 : Int)] 28))
        refine bodyPost_ret (v := .tuple #[.agg #[.int .u64 0, .int .u64 0], .int .i64 (m3 : Int), .string ms]) (by simp [results, Tryz.results36, go_sem, p0, p1]) rfl ?_
        obtain ⟨f1, f2, f3, f4⟩ := HFF.out
        rw [f1, f2, f3, f4]
        exact ⟨rfl, ((M3.out.hb.setCell (by simp) _).setCell (by simp) _).alloc (by have := M3.out.hb.size; simp; omega) _⟩

set_option maxRecDepth 100000 in
theorem refEval_bad (ao : Option Addr) (n c k : Nat) (xl xh : Nat) (w : World) (hk : k ≠ 0)
    (hR : ∀ W, Below w.heap.size w W → Calls Tryz.prog 80 #[.slice ao n c] W fun e w' => e = .returned (.int .i64 (k : Int)) ∧ Below W.heap.size W w') :
    Calls Tryz.prog 36 #[.slice ao n c, .agg #[.int .u64 (xl : Int), .int .u64 (xh : Int)]] w fun e w' => e = .returned (.tuple #[.agg #[.int .u64 0, .int .u64 0], .int .i64 (k : Int), .string ⟨#[]⟩]) ∧ Below w.heap.size w w' := by
  have HR := hid hR
  have hk' : ¬ (k : Int) = 0 := by omega
  clear hR hk
  go_enter Tryz.func36, Tryz.ntmps36
  go_wp2_with fail
  have B4 := blk_new (w.alloc (Obj.cells #[.int .u64 (xl : Int), .int .u64 (xh : Int)] 28)) (Obj.cells #[.int .u64 0, .int .u64 0] 28)
  have hW : Below w.heap.size w ((w.alloc (Obj.cells #[.int .u64 (xl : Int), .int .u64 (xh : Int)] 28)).alloc (Obj.cells #[.int .u64 0, .int .u64 0] 28)) := ((Below.refl _ _).alloc (Nat.le_refl _) _).alloc (by simp) _
  simp only [World.size_alloc] at B4
  generalize ((w.alloc (Obj.cells #[.int .u64 (xl : Int), .int .u64 (xh : Int)] 28)).alloc (Obj.cells #[.int .u64 0, .int .u64 0] 28)) = W1 at *
  refine Calls.mono (HR.out _ hW) ?_
  rintro e w0 ⟨rfl, hb0⟩
  have HB : Hid (Below w.heap.size w w0) := hW.trans (hb0.mono hW.size)
  have HK4 : Hid (w0.heap[w.heap.size + 1]? = _) := blk_below B4 hb0
  obtain ⟨z0, z1, z2, z3⟩ := blk2 HK4.out
  clear hW B4 hb0 HR
  go_wp2_with fail
  obtain ⟨p0, p1, -, -⟩ := blk2 (blk_store2 (a := .int .u64 0) (b := .int .u64 0) HK4.out)
  refine bodyPost_ret (v := .tuple #[.agg #[.int .u64 0, .int .u64 0], .int .i64 (k : Int), .string ⟨#[]⟩]) (by simp [results, Tryz.results36, go_sem, p0, p1]) rfl ?_
  exact ⟨rfl, (HB.out.setCell (by simp) _).setCell (by simp) _⟩

theorem refEval_any (ao : Option Addr) (n c : Nat) (ps : Nat → Nat) (xl xh : Nat) (w : World) (h : WdV w ao n ps) (hn : n * 8 ≤ 140737488355328) (h1 : xl < 18446744073709551616) (h2 : xh < 18446744073709551616) (al ah : Nat) (e1 : al = (makeN xl xh).1) (e2 : ah = (makeN xl xh).2.1) (r : Nat × Nat × Nat × ByteArray) (hr : r = evalN ps n (plT al) (plT ah)) :
    Calls Tryz.prog 36 #[.slice ao n c, .agg #[.int .u64 (xl : Int), .int .u64 (xh : Int)]] w fun e w' => e = .returned (.tuple #[.agg #[.int .u64 (r.1 : Int), .int .u64 (r.2.1 : Int)], .int .i64 (r.2.2.1 : Int), .string r.2.2.2]) ∧ Below w.heap.size w w' := by
  unfold evalN at hr
  have hR : ∀ W, Below w.heap.size w W → Calls Tryz.prog 80 #[.slice ao n c] W fun e w' => e = .returned (.int .i64 (rightN ps n : Int)) ∧ Below W.heap.size W w' := fun W hb => right_any ao n c ps W (h.below hb) hn
  by_cases h0 : rightN ps n ≠ 0
  · rw [if_pos h0] at hr
    subst hr
    exact refEval_bad ao n c _ xl xh w h0 hR
  · rw [if_neg h0] at hr
    have h0' : rightN ps n = 0 := Decidable.not_not.1 h0
    obtain ⟨hn1, hn9, hpl⟩ := right_plain h0'
    obtain ⟨m, rfl⟩ : ∃ m, n = m + 1 := ⟨n - 1, by omega⟩
    have hp := h.1
    have hk := hornK (xl := al) (xh := ah) h0' hp
    have e : r = (fun t => hornN ps (m + 1) (plT al) (plT ah) (m - t)) 0 := hr
    generalize (fun t => hornN ps (m + 1) (plT al) (plT ah) (m - t)) = H at *
    subst e
    obtain ⟨g, off, rfl, hg, hc⟩ := h.2.resolve_left (by omega)
    rw [h0'] at hR
    refine refEval_good g off m c ps xl xh al ah w hg hc (by omega) hR (fun i hi W => pointR_any (ps i) W (hp i hi)) (fun l h i W => ?_) (fun l h i k hk W => ?_) H hk
    · exact refOp_any 5 l h xl xh W i.lt1 i.lt2 h1 h2 l h al ah (by rw [make_iv i]) (by rw [make_iv i]) e1 e2 _ rfl
    · have ip := iv_point (hp k hk) (hpl k hk)
      exact refOp_any 3 l h _ _ W i.lt1 i.lt2 ip.lt1 ip.lt2 l h _ _ (by rw [make_iv i]) (by rw [make_iv i]) (by rw [make_iv ip]) (by rw [make_iv ip]) _ rfl
end Go.Proofs.YtonhpkigoplmaaaGreatDoor
namespace Go.Proofs.YtonhpkigoplmaaaGreatDoor
open Go.RowKit

set_option maxHeartbeats 1000000 in
set_option maxRecDepth 20000 in
theorem upto_any2 (A : Nat → Addr) (z : Script) (ao : Option Addr) (n c : Nat) (lo hi : Int) (w : World) (hn : n ≤ 1466015503701) (hS : Sents A w)
    (hz : n = 0 ∨ ∃ g off, ao = some ⟨g, off, none⟩ ∧ g < w.heap.size ∧ z.at w g off n)
    (hp : ∀ i, i < n → lo ≤ z.k i → z.k i ≤ hi → ∀ W, Below w.heap.size w W → Sents A W → Calls Tryz.prog 18 #[z.val i] W fun e W' => e = .returned (.bool true) ∧ Below W.heap.size W W') :
    Calls Tryz.prog 14 #[.slice ao n c, .int .i64 lo, .int .i64 hi] w fun e w' => e = .returned (.int .i64 (-1)) ∧ Below w.heap.size w w' := by
  have HP : Hid (∀ i, i < n → lo ≤ z.k i → z.k i ≤ hi → ∀ W, Below w.heap.size w W → Sents A W → Calls Tryz.prog 18 #[z.val i] W fun e W' => e = .returned (.bool true) ∧ Below W.heap.size W W') := hp
  have HZ : Hid (n = 0 ∨ ∃ g off, ao = some ⟨g, off, none⟩ ∧ g < w.heap.size ∧ z.at w g off n) := hz
  have HS : Hid (Sents A w) := hS
  clear hp hz hS
  go_enter Tryz.func14, Tryz.ntmps14
  go_wp2
  have hM0 : (n : Int) ≤ 1152921504606846976 := by omega
  generalize (1152921504606846976 : Int) = M at *
  go_loopw [7] (fun v wr => ∃ i : Nat, i ≤ n ∧ v = .int .i64 (i : Int) ∧ Below w.heap.size w wr) (fun v _ => n - (intOf v).toNat)
  case atStart => exact ⟨0, Nat.zero_le _, rfl, Below.refl _ _⟩
  case round =>
    obtain ⟨i, hi1, rfl, hbr⟩ := hrel
    by_cases hin : i < n
    · have hiM : (i : Int) < M := by omega
      obtain ⟨g, off, rfl, hg, hat⟩ := HZ.out.resolve_left (by omega)
      obtain ⟨c0, c1, c2, c3, c4, c5, c6, c7, c8⟩ := hat i hin
      rw [← hbr.cell (by exact hg)] at c0 c1 c2 c3 c4 c5 c6 c7 c8
      have HSr : Hid (Sents A wr) := HS.out.below hbr (Nat.le_refl _)
      have HPi : Hid (lo ≤ z.k i → z.k i ≤ hi → ∀ W, Below w.heap.size w W → Sents A W → Calls Tryz.prog 18 #[z.val i] W fun e W' => e = .returned (.bool true) ∧ Below W.heap.size W W') := HP.out i hin
      have Hbr : Hid (Below w.heap.size w wr) := hbr
      unfold Script.val at HPi
      clear hat HZ HP HS hg hbr
      generalize z.k i = zk at *
      generalize z.a i = za at *
      generalize z.b i = zb at *
      generalize z.s i = zs at *
      generalize z.xl i = zxl at *
      generalize z.xh i = zxh at *
      generalize z.yl i = zyl at *
      generalize z.yh i = zyh at *
      generalize z.po i = zpo at *
      generalize z.pl i = zpl at *
      generalize z.pc i = zpc at *
      by_cases hk1 : lo ≤ zk
      · by_cases hk2 : zk ≤ hi
        · go_wp2_with fail
          have hA1 : Below wr.heap.size wr (wr.alloc (Obj.cells #[Value.int IntKind.i64 zk, Value.int IntKind.i64 za, Value.int IntKind.i64 zb, Value.string zs, Value.int IntKind.u64 ↑zxl, Value.int IntKind.u64 ↑zxh, Value.int IntKind.u64 ↑zyl, Value.int IntKind.u64 ↑zyh, Value.slice zpo zpl zpc] 31)) := (Below.refl _ _).alloc (Nat.le_refl _) _
          refine Calls.mono (HPi.out hk1 hk2 _ (Hbr.out.trans (hA1.mono Hbr.out.size)) (HSr.out.below hA1 (Nat.le_refl _))) ?_
          rintro e w1 ⟨rfl, hb1⟩
          have Hb1 : Hid (Below w.heap.size w w1) := (Hbr.out.alloc Hbr.out.size _).trans (hb1.mono (by have := Hbr.out.size; simp; omega))
          clear hA1 hb1 HPi HSr Hbr c0 c1 c2 c3 c4 c5 c6 c7 c8
          go_wp2
          go_roundw
          case rel => exact ⟨i + 1, by omega, by go_num, Hb1.out⟩
          case measure => simp [intOf]; omega
        · clear HPi HSr
          go_wp2
          go_roundw
          case rel => exact ⟨i + 1, by omega, by go_num, Hbr.out.alloc Hbr.out.size _⟩
          case measure => simp [intOf]; omega
      · clear HPi HSr
        go_wp2
        go_roundw
        case rel => exact ⟨i + 1, by omega, by go_num, Hbr.out.alloc Hbr.out.size _⟩
        case measure => simp [intOf]; omega
    · clear HZ HP HS
      go_wp2
      go_ret
      exact ⟨rfl, hbr⟩

end Go.Proofs.YtonhpkigoplmaaaGreatDoor
namespace Go.Proofs.YtonhpkigoplmaaaGreatDoor
open Go.RowKit

theorem LSt.cells8 {w W : World} {c0 c1 c2 c3 c4 c5 c6 c7 c8 : Value} (m : LSt w W #[c0, c1, c2, c3, c4, c5, c6, c7, c8]) : W.cell? ⟨w.heap.size, 4, none⟩ = some c4 ∧ W.cell? ⟨w.heap.size, 5, none⟩ = some c5 ∧ W.cell? ⟨w.heap.size, 8, none⟩ = some c8 := by
  obtain ⟨-, -, -, -, k4, k5, -, -, k8⟩ := blk9 m.k0
  exact ⟨k4, k5, k8⟩

set_option maxHeartbeats 4000000 in
set_option maxRecDepth 100000 in
theorem plays_eval (A : Nat → Addr) (a b : Int) (s : ByteArray) (xl xh yl yh : Nat) (po : Option Addr) (n pc : Nat) (ps : Nat → Nat) (r1 r2 r3 : Nat) (rs : ByteArray) (w : World) (hS : Sents A w) (hw : WdV w po n ps) (hn : n * 8 ≤ 140737488355328)
    (hp : ∀ W bo bc, Sents A W → WdV W bo n ps → Calls Tryz.prog 34 #[.slice bo n bc, .agg #[.int .u64 (xl : Int), .int .u64 (xh : Int)]] W fun e w' => e = .returned (.tuple #[.agg #[.int .u64 (r1 : Int), .int .u64 (r2 : Int)], .int .i64 (r3 : Int), .string rs]) ∧ Below W.heap.size W w')
    (hq : ∀ W bo bc, WdV W bo n ps → Calls Tryz.prog 36 #[.slice bo n bc, .agg #[.int .u64 (xl : Int), .int .u64 (xh : Int)]] W fun e w' => e = .returned (.tuple #[.agg #[.int .u64 (r1 : Int), .int .u64 (r2 : Int)], .int .i64 (r3 : Int), .string rs]) ∧ Below W.heap.size W w') :
    Calls Tryz.prog 18 #[.agg #[Value.int IntKind.i64 5, Value.int IntKind.i64 a, Value.int IntKind.i64 b, Value.string s, Value.int IntKind.u64 (xl : Int), Value.int IntKind.u64 (xh : Int), Value.int IntKind.u64 (yl : Int), Value.int IntKind.u64 (yh : Int), Value.slice po n pc]] w fun e w' => e = .returned (.bool true) ∧ Below w.heap.size w w' := by
  have HP : Hid (∀ (W : World) (bo : Option Addr) (bc : Nat), Below w.heap.size w W → WdV W bo n ps → Calls Tryz.prog 34 #[.slice bo n bc, .agg #[.int .u64 (xl : Int), .int .u64 (xh : Int)]] W fun e w' => e = .returned (.tuple #[.agg #[.int .u64 (r1 : Int), .int .u64 (r2 : Int)], .int .i64 (r3 : Int), .string rs]) ∧ Below W.heap.size W w') := fun W bo bc hb h => hp W bo bc (hS.below hb (Nat.le_refl _)) h
  have HQ : Hid (∀ W, Below w.heap.size w W → Calls Tryz.prog 36 #[.slice po n pc, .agg #[.int .u64 (xl : Int), .int .u64 (xh : Int)]] W fun e w' => e = .returned (.tuple #[.agg #[.int .u64 (r1 : Int), .int .u64 (r2 : Int)], .int .i64 (r3 : Int), .string rs]) ∧ Below W.heap.size W w') := fun W hb => hq W po pc (hw.below hb)
  have H1 : Hid (∀ W, Below w.heap.size w W → Calls Tryz.prog 35 #[.slice po n pc] W fun e w' => ∃ bo bc, e = .returned (.slice bo n bc) ∧ WdV w' bo n ps ∧ Below W.heap.size W w') := fun W hb => copied_any po n pc ps W (hw.below hb) hn
  have H2 : Hid (∀ W, Calls Tryz.prog 26 #[.agg #[.int .u64 (xl : Int), .int .u64 (xh : Int)]] W fun e w' => e = .returned (.agg #[.int .u64 (xl : Int), .int .u64 (xh : Int)]) ∧ Below W.heap.size W w') := fun W => lawBox_any _ _ W
  clear hp hq hS hw hn
  go_enter Tryz.func18, Tryz.ntmps18
  go_wp2_with fail
  have m1 : Hid (LSt w (w.alloc (Obj.cells #[Value.int IntKind.i64 5, Value.int IntKind.i64 a, Value.int IntKind.i64 b, Value.string s, Value.int IntKind.u64 (xl : Int), Value.int IntKind.u64 (xh : Int), Value.int IntKind.u64 (yl : Int), Value.int IntKind.u64 (yh : Int), Value.slice po n pc] 31)) #[Value.int IntKind.i64 5, Value.int IntKind.i64 a, Value.int IntKind.i64 b, Value.string s, Value.int IntKind.u64 (xl : Int), Value.int IntKind.u64 (xh : Int), Value.int IntKind.u64 (yl : Int), Value.int IntKind.u64 (yh : Int), Value.slice po n pc]) := ⟨blk_new w _, (Below.refl _ _).alloc (Nat.le_refl _) _, by simp⟩
  generalize (w.alloc (Obj.cells #[Value.int IntKind.i64 5, Value.int IntKind.i64 a, Value.int IntKind.i64 b, Value.string s, Value.int IntKind.u64 (xl : Int), Value.int IntKind.u64 (xh : Int), Value.int IntKind.u64 (yl : Int), Value.int IntKind.u64 (yh : Int), Value.slice po n pc] 31)) = W2 at *
  go_cut [27, 28, 29] (fun s8 s9 s10 wc => ∃ g, s8 = .pointer (some ⟨g, 0, none⟩) ∧ s9 = .int .i64 (r3 : Int) ∧ s10 = .string rs ∧ LSt w wc #[Value.int IntKind.i64 5, Value.int IntKind.i64 a, Value.int IntKind.i64 b, Value.string s, Value.int IntKind.u64 (xl : Int), Value.int IntKind.u64 (xh : Int), Value.int IntKind.u64 (yl : Int), Value.int IntKind.u64 (yh : Int), Value.slice po n pc] ∧ PBox w wc g (.int .u64 (r1 : Int)) (.int .u64 (r2 : Int)))
  case first =>
    have iN : Hid (LSt w W2.drew #[Value.int IntKind.i64 5, Value.int IntKind.i64 a, Value.int IntKind.i64 b, Value.string s, Value.int IntKind.u64 (xl : Int), Value.int IntKind.u64 (xh : Int), Value.int IntKind.u64 (yl : Int), Value.int IntKind.u64 (yh : Int), Value.slice po n pc]) := m1.out.drew
    go_region_held3 (fun W => W.cell? ⟨w.heap.size, 4, none⟩ = some (.int .u64 (xl : Int)) ∧ W.cell? ⟨w.heap.size, 5, none⟩ = some (.int .u64 (xh : Int)) ∧ W.cell? ⟨w.heap.size, 8, none⟩ = some (.slice po n pc)) (first | with_reducible exact iN.out.cells8 | with_reducible exact (m1.out.alloc _).drew.cells8 | with_reducible exact (iN.out.alloc _).cells8 | with_reducible exact (iN.out.set2 zf.out _ _).cells8)
      (first
        | (go_at_call 35; with_reducible (refine Calls.mono (H1.out _ ?_) ?_); (with_reducible exact iN.out.hb); rintro e v0 ⟨bo, bc, rfl, hw, hbk⟩
           have NW : Hid (WdV v0 bo n ps) := hw
           clear hw
           have iN : Hid (LSt w v0 #[Value.int IntKind.i64 5, Value.int IntKind.i64 a, Value.int IntKind.i64 b, Value.string s, Value.int IntKind.u64 (xl : Int), Value.int IntKind.u64 (xh : Int), Value.int IntKind.u64 (yl : Int), Value.int IntKind.u64 (yh : Int), Value.slice po n pc]) := iN.out.below hbk
           clear hbk)
        | (go_at_call 35; with_reducible (refine Calls.mono (H1.out _ ?_) ?_); (with_reducible exact (m1.out.alloc _).drew.hb); rintro e v0 ⟨bo, bc, rfl, hw, hbk⟩
           have zf : Hid (PBox w v0 _ _ _) := (PBox.new m1.out.sz).drew.below hbk
           have NW : Hid (WdV v0 bo n ps) := hw
           clear hw
           have iN : Hid (LSt w v0 #[Value.int IntKind.i64 5, Value.int IntKind.i64 a, Value.int IntKind.i64 b, Value.string s, Value.int IntKind.u64 (xl : Int), Value.int IntKind.u64 (xh : Int), Value.int IntKind.u64 (yl : Int), Value.int IntKind.u64 (yh : Int), Value.slice po n pc]) := (m1.out.alloc _).drew.below hbk
           clear hbk)
        | (go_at_call 26; with_reducible (refine Calls.mono (H2.out _) ?_); rintro e v1 ⟨rfl, hbk⟩
           try (have zf : Hid (PBox w v1 _ _ _) := zf.out.below hbk)
           have NW : Hid (WdV v1 bo n ps) := NW.out.below hbk
           have iN : Hid (LSt w v1 #[Value.int IntKind.i64 5, Value.int IntKind.i64 a, Value.int IntKind.i64 b, Value.string s, Value.int IntKind.u64 (xl : Int), Value.int IntKind.u64 (xh : Int), Value.int IntKind.u64 (yl : Int), Value.int IntKind.u64 (yh : Int), Value.slice po n pc]) := iN.out.below hbk
           clear hbk)
        | (go_at_call 26; with_reducible (refine Calls.mono (H2.out _) ?_); rintro e v1 ⟨rfl, hbk⟩
           have zf : Hid (PBox w v1 _ _ _) := (PBox.new iN.out.sz).below hbk
           have NW : Hid (WdV v1 bo n ps) := (NW.out.below ((Below.refl _ _).alloc (Nat.le_refl _) _)).below hbk
           have iN : Hid (LSt w v1 #[Value.int IntKind.i64 5, Value.int IntKind.i64 a, Value.int IntKind.i64 b, Value.string s, Value.int IntKind.u64 (xl : Int), Value.int IntKind.u64 (xh : Int), Value.int IntKind.u64 (yl : Int), Value.int IntKind.u64 (yh : Int), Value.slice po n pc]) := (iN.out.alloc _).below hbk
           clear hbk)
        | (go_at_call 34; with_reducible (refine Calls.mono (HP.out _ bo bc ?_ ?_) ?_); (with_reducible exact iN.out.hb); (exact NW.out); rintro e v2 ⟨rfl, hbk⟩
           try (have zf : Hid (PBox w v2 _ _ _) := zf.out.below hbk; obtain ⟨zc0, zc1, zc2, zc3⟩ := blk2 zf.out.1)
           have iN : Hid (LSt w v2 #[Value.int IntKind.i64 5, Value.int IntKind.i64 a, Value.int IntKind.i64 b, Value.string s, Value.int IntKind.u64 (xl : Int), Value.int IntKind.u64 (xh : Int), Value.int IntKind.u64 (yl : Int), Value.int IntKind.u64 (yh : Int), Value.slice po n pc]) := iN.out.below hbk
           clear hbk)
        | (go_at_call 34; with_reducible (refine Calls.mono (HP.out _ bo bc ?_ ?_) ?_); (with_reducible exact (iN.out.alloc _).hb); (exact (NW.out.below ((Below.refl _ _).alloc (Nat.le_refl _) _))); rintro e v2 ⟨rfl, hbk⟩
           have zf : Hid (PBox w v2 _ _ _) := (PBox.new iN.out.sz).below hbk
           obtain ⟨zc0, zc1, zc2, zc3⟩ := blk2 zf.out.1
           have iN : Hid (LSt w v2 #[Value.int IntKind.i64 5, Value.int IntKind.i64 a, Value.int IntKind.i64 b, Value.string s, Value.int IntKind.u64 (xl : Int), Value.int IntKind.u64 (xh : Int), Value.int IntKind.u64 (yl : Int), Value.int IntKind.u64 (yh : Int), Value.slice po n pc]) := (iN.out.alloc _).below hbk
           clear hbk))
    all_goals (go_wp2_with fail; go_meet; refine ⟨_, rfl, rfl, rfl, ?_, ?_⟩)
    all_goals first | with_reducible exact iN.out.set2 zf.out _ _ | with_reducible exact zf.out.same _ _ | with_reducible exact iN.out.alloc _ | with_reducible exact PBox.new iN.out.sz
  case rest =>
    clear HP H1 H2 m1
    obtain ⟨g, rfl, rfl, rfl, hL, hB⟩ := hcut
    have ML : Hid (LSt w wc #[Value.int IntKind.i64 5, Value.int IntKind.i64 a, Value.int IntKind.i64 b, Value.string s, Value.int IntKind.u64 (xl : Int), Value.int IntKind.u64 (xh : Int), Value.int IntKind.u64 (yl : Int), Value.int IntKind.u64 (yh : Int), Value.slice po n pc]) := hL
    have MB : Hid (PBox w wc g (.int .u64 (r1 : Int)) (.int .u64 (r2 : Int))) := hB
    obtain ⟨k4, k5, k8⟩ := hL.cells8
    clear hL hB
    go_wp2_with fail
    refine Calls.mono (HQ.out _ ML.out.hb) ?_
    rintro e w3 ⟨rfl, hb3⟩
    have ML3 : Hid (LSt w w3 #[Value.int IntKind.i64 5, Value.int IntKind.i64 a, Value.int IntKind.i64 b, Value.string s, Value.int IntKind.u64 (xl : Int), Value.int IntKind.u64 (xh : Int), Value.int IntKind.u64 (yl : Int), Value.int IntKind.u64 (yh : Int), Value.slice po n pc]) := ML.out.below hb3
    obtain ⟨j0, j1, -, -⟩ := blk2 (MB.out.below hb3).1
    have lj := lt_of_row (MB.out.below hb3).1
    clear hb3 k4 k5 k8 ML MB HQ
    go_wp2_with fail
    refine (same_eq _ _ _).mono ?_
    rintro e w4 ⟨rfl, hb4⟩
    have hbD : Below w.heap.size w w4 := (ML3.out.hb.alloc ML3.out.hb.size _).trans (hb4.mono (by have := ML3.out.hb.size; simp; omega))
    clear ML3 hb4 j0 j1 lj
    go_wp2
    go_ret
    exact ⟨rfl, hbD⟩

/-- A step of a script whose list is known, in every world that holds the script as it was. -/
theorem evals_any (A : Nat → Addr) (z : Script) (P : Nat → Nat → Nat) (ao : Option Addr) (n c : Nat) (w : World) (hn : n ≤ 1466015503701) (hS : Sents A w)
    (hz : n = 0 ∨ ∃ g off, ao = some ⟨g, off, none⟩ ∧ g < w.heap.size ∧ z.at w g off n) (hx : ∀ i, i < n → z.xl i < 18446744073709551616 ∧ z.xh i < 18446744073709551616) (hP : ∀ i, i < n → WdV w (z.po i) (z.pl i) (P i) ∧ z.pl i * 8 ≤ 140737488355328) :
    Calls Tryz.prog 8 #[.slice ao n c] w fun e w' => e = .returned (.bool true) ∧ Below w.heap.size w w' := by
  have HU := upto_any2 A z ao n c 5 5 w hn hS hz (fun i hi h1 h2 W hb hW => by
    have hk : z.k i = 5 := by omega
    unfold Script.val
    rw [hk]
    obtain ⟨x1, x2⟩ := hx i hi
    obtain ⟨p1, p2⟩ := hP i hi
    exact plays_eval A _ _ _ _ _ _ _ _ _ _ (P i) _ _ _ _ W hW (p1.below hb) p2 (fun W bo bc hS h => plainEval_ref A bo _ bc (P i) _ _ W hS h p2 x1 x2 _ _ rfl rfl _ rfl) (fun W bo bc h => refEval_any bo _ bc (P i) _ _ W h p2 x1 x2 _ _ rfl rfl _ rfl))
  clear hz hx hS hn hP
  have HU : Hid (Calls Tryz.prog 14 #[.slice ao n c, .int .i64 5, .int .i64 5] w fun e w' => e = .returned (.int .i64 (-1)) ∧ Below w.heap.size w w') := HU
  go_enter Tryz.func8, Tryz.ntmps8
  go_wp2_with fail
  refine Calls.mono HU.out ?_
  rintro e w1 ⟨rfl, hb1⟩
  clear HU
  go_wp2
  go_ret
  exact ⟨rfl, hb1⟩
end Go.Proofs.YtonhpkigoplmaaaGreatDoor
