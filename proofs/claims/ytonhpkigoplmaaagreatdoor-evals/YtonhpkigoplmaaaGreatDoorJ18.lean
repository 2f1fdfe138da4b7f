/-
  RefZ, OpC, AddF, SqrtF.
-/
import Derived.Test.YtonhpkigoplmaaaGreatDoorJ14
import Derived.Deep.DeepCutAuto
import Derived.Test.YtonhpkigoplmaaaGreatDoorJ15
import Derived.Test.YtonhpkigoplmaaaGreatDoorJ16
import Derived.Test.YtonhpkigoplmaaaGreatDoorJ17
import Derived.Test.YtonhpkigoplmaaaGreatDoorJ13
namespace Go.Proofs.YtonhpkigoplmaaaGreatDoor
open Go.RowKit

set_option maxHeartbeats 20000000 in
set_option maxRecDepth 100000 in
theorem divided_any (va vb : Value) (a1 a2 b1 b2 q0 q1 q2 q3 : Bool × Nat × Int) (w : World) (ha : IvV w va a1 a2) (hb : IvV w vb b1 b2) (hz : holdsT b1 b2 = false)
    (hq0 : ∀ u v w', NumV w' u a1.1 a1.2.1 a1.2.2 → NumV w' v b1.1 b1.2.1 b1.2.2 → Calls Tryz.prog 122 #[u, v] w' fun ev w'' => ∃ x, ev = .returned x ∧ NumV w'' x q0.1 q0.2.1 q0.2.2 ∧ Below w'.heap.size w' w'')
    (hq1 : ∀ u v w', NumV w' u a1.1 a1.2.1 a1.2.2 → NumV w' v b2.1 b2.2.1 b2.2.2 → Calls Tryz.prog 122 #[u, v] w' fun ev w'' => ∃ x, ev = .returned x ∧ NumV w'' x q1.1 q1.2.1 q1.2.2 ∧ Below w'.heap.size w' w'')
    (hq2 : ∀ u v w', NumV w' u a2.1 a2.2.1 a2.2.2 → NumV w' v b1.1 b1.2.1 b1.2.2 → Calls Tryz.prog 122 #[u, v] w' fun ev w'' => ∃ x, ev = .returned x ∧ NumV w'' x q2.1 q2.2.1 q2.2.2 ∧ Below w'.heap.size w' w'')
    (hq3 : ∀ u v w', NumV w' u a2.1 a2.2.1 a2.2.2 → NumV w' v b2.1 b2.2.1 b2.2.2 → Calls Tryz.prog 122 #[u, v] w' fun ev w'' => ∃ x, ev = .returned x ∧ NumV w'' x q3.1 q3.2.1 q3.2.2 ∧ Below w'.heap.size w' w'')
    (s0 : Small q0 ∧ (digits q0.2.1).length ≤ 400000) (s1 : Small q1 ∧ (digits q1.2.1).length ≤ 400000) (s2 : Small q2 ∧ (digits q2.2.1).length ≤ 400000) (s3 : Small q3 ∧ (digits q3.2.1).length ≤ 400000) (r : Nat × Nat × Nat) (hr : r = aroundN (pick4 q0 q1 q2 q3 (ixLo (pick4 q0 q1 q2 q3) 3)) (pick4 q0 q1 q2 q3 (ixHi (pick4 q0 q1 q2 q3) 3))) :
    Calls Tryz.prog 68 #[va, vb] w fun e w' => e = .returned (.tuple #[.agg #[.int .u64 ((nameT r ⟨#[47]⟩).1 : Int), .int .u64 ((nameT r ⟨#[47]⟩).2.1 : Int)], .int .i64 ((nameT r ⟨#[47]⟩).2.2.1 : Int), .string (nameT r ⟨#[47]⟩).2.2.2]) ∧ Below w.heap.size w w' := by
  obtain ⟨ao, la, ca, bo, lb, cb, rfl, hla, hlb, hna, hnb⟩ := ha
  obtain ⟨co, lc, cc, do_, ld, cd, rfl, hlc, hld, hnc, hnd⟩ := hb
  have HH : Hid (∀ w', Below w.heap.size w w' → Calls Tryz.prog 121 #[.agg #[.bool b1.1, .slice co lc cc, .int .i64 b1.2.2, .bool b2.1, .slice do_ ld cd, .int .i64 b2.2.2]] w' fun e w'' => e = .returned (.bool false) ∧ Below w'.heap.size w' w'') := by
    intro w' hb'
    have := holds0_any _ b1 b2 w' ⟨_, _, _, _, _, _, rfl, hlc, hld, hnc.below hb' (Nat.le_refl _), hnd.below hb' (Nat.le_refl _)⟩
    rwa [hz] at this
  have NA : ∀ w', Below w.heap.size w w' → NumV w' (.agg #[.bool a1.1, .slice ao la ca, .int .i64 a1.2.2]) a1.1 a1.2.1 a1.2.2 ∧ NumV w' (.agg #[.bool a2.1, .slice bo lb cb, .int .i64 a2.2.2]) a2.1 a2.2.1 a2.2.2 ∧ NumV w' (.agg #[.bool b1.1, .slice co lc cc, .int .i64 b1.2.2]) b1.1 b1.2.1 b1.2.2 ∧ NumV w' (.agg #[.bool b2.1, .slice do_ ld cd, .int .i64 b2.2.2]) b2.1 b2.2.1 b2.2.2 := fun w' hb => ⟨⟨_, _, _, rfl, hla, hna.below hb (Nat.le_refl _)⟩, ⟨_, _, _, rfl, hlb, hnb.below hb (Nat.le_refl _)⟩, ⟨_, _, _, rfl, hlc, hnc.below hb (Nat.le_refl _)⟩, ⟨_, _, _, rfl, hld, hnd.below hb (Nat.le_refl _)⟩⟩
  have Q0 : Hid (∀ w', Below w.heap.size w w' → Calls Tryz.prog 122 #[.agg #[.bool a1.1, .slice ao la ca, .int .i64 a1.2.2], .agg #[.bool b1.1, .slice co lc cc, .int .i64 b1.2.2]] w' fun ev w'' => ∃ vo vl vc, ev = .returned (.agg #[.bool q0.1, .slice vo vl vc, .int .i64 q0.2.2]) ∧ vl = (digits q0.2.1).length ∧ NatV w'' (.slice vo vl vc) q0.2.1 ∧ Below w'.heap.size w' w'') := fun w' hb => (hq0 _ _ w' (NA w' hb).1 (NA w' hb).2.2.1).mono (fun ev w'' h => by obtain ⟨x, h1, ⟨vo, vl, vc, rfl, h2, h3⟩, h4⟩ := h; exact ⟨vo, vl, vc, h1, h2, h3, h4⟩)
  have Q1 : Hid (∀ w', Below w.heap.size w w' → Calls Tryz.prog 122 #[.agg #[.bool a1.1, .slice ao la ca, .int .i64 a1.2.2], .agg #[.bool b2.1, .slice do_ ld cd, .int .i64 b2.2.2]] w' fun ev w'' => ∃ vo vl vc, ev = .returned (.agg #[.bool q1.1, .slice vo vl vc, .int .i64 q1.2.2]) ∧ vl = (digits q1.2.1).length ∧ NatV w'' (.slice vo vl vc) q1.2.1 ∧ Below w'.heap.size w' w'') := fun w' hb => (hq1 _ _ w' (NA w' hb).1 (NA w' hb).2.2.2).mono (fun ev w'' h => by obtain ⟨x, h1, ⟨vo, vl, vc, rfl, h2, h3⟩, h4⟩ := h; exact ⟨vo, vl, vc, h1, h2, h3, h4⟩)
  have Q2 : Hid (∀ w', Below w.heap.size w w' → Calls Tryz.prog 122 #[.agg #[.bool a2.1, .slice bo lb cb, .int .i64 a2.2.2], .agg #[.bool b1.1, .slice co lc cc, .int .i64 b1.2.2]] w' fun ev w'' => ∃ vo vl vc, ev = .returned (.agg #[.bool q2.1, .slice vo vl vc, .int .i64 q2.2.2]) ∧ vl = (digits q2.2.1).length ∧ NatV w'' (.slice vo vl vc) q2.2.1 ∧ Below w'.heap.size w' w'') := fun w' hb => (hq2 _ _ w' (NA w' hb).2.1 (NA w' hb).2.2.1).mono (fun ev w'' h => by obtain ⟨x, h1, ⟨vo, vl, vc, rfl, h2, h3⟩, h4⟩ := h; exact ⟨vo, vl, vc, h1, h2, h3, h4⟩)
  have Q3 : Hid (∀ w', Below w.heap.size w w' → Calls Tryz.prog 122 #[.agg #[.bool a2.1, .slice bo lb cb, .int .i64 a2.2.2], .agg #[.bool b2.1, .slice do_ ld cd, .int .i64 b2.2.2]] w' fun ev w'' => ∃ vo vl vc, ev = .returned (.agg #[.bool q3.1, .slice vo vl vc, .int .i64 q3.2.2]) ∧ vl = (digits q3.2.1).length ∧ NatV w'' (.slice vo vl vc) q3.2.1 ∧ Below w'.heap.size w' w'') := fun w' hb => (hq3 _ _ w' (NA w' hb).2.1 (NA w' hb).2.2.2).mono (fun ev w'' h => by obtain ⟨x, h1, ⟨vo, vl, vc, rfl, h2, h3⟩, h4⟩ := h; exact ⟨vo, vl, vc, h1, h2, h3, h4⟩)
  have HSP : Hid (∀ (g : Nat) (W : World) (o0 o1 o2 o3 : Option Addr) (l0 l1 l2 l3 c0 c1 c2 c3 : Nat), W.heap[g]? = some (.cells #[.bool q0.1, .slice o0 l0 c0, .int .i64 q0.2.2, .bool q1.1, .slice o1 l1 c1, .int .i64 q1.2.2, .bool q2.1, .slice o2 l2 c2, .int .i64 q2.2.2, .bool q3.1, .slice o3 l3 c3, .int .i64 q3.2.2] 92 (0, 0)) → l0 = (digits q0.2.1).length → l1 = (digits q1.2.1).length → l2 = (digits q2.2.1).length → l3 = (digits q3.2.1).length → NatV W (.slice o0 l0 c0) q0.2.1 → NatV W (.slice o1 l1 c1) q1.2.1 → NatV W (.slice o2 l2 c2) q2.2.1 → NatV W (.slice o3 l3 c3) q3.2.1 → Calls Tryz.prog 63 #[.slice (some ⟨g, 0, none⟩) 4 4] W fun ev w' => ev = .returned (.tuple #[.agg #[.int .u64 (r.1 : Int), .int .u64 (r.2.1 : Int)], .int .i64 (r.2.2 : Int)]) ∧ Below W.heap.size W w') := by
    intro g W o0 o1 o2 o3 l0 l1 l2 l3 c0 c1 c2 c3 hg e0 e1 e2 e3 n0 n1 n2 n3
    rw [hr]
    exact span_any g _ _ _ _ W (four_of hg e0 e1 e2 e3 n0 n1 n2 n3 s0 s1 s2 s3)
  clear NA hz hq0 hq1 hq2 hq3 s0 s1 s2 s3 hr hla hlb hlc hld hna hnb hnc hnd
  obtain ⟨r1, r2, r3⟩ := r
  have HNM : Hid (∀ w, Calls Tryz.prog 66 #[.agg #[.int .u64 (r1 : Int), .int .u64 (r2 : Int)], .int .i64 (r3 : Int), .string ⟨#[47]⟩] w fun e w' => e = .returned (.tuple #[.agg #[.int .u64 ((nameT (r1, r2, r3) ⟨#[47]⟩).1 : Int), .int .u64 ((nameT (r1, r2, r3) ⟨#[47]⟩).2.1 : Int)], .int .i64 ((nameT (r1, r2, r3) ⟨#[47]⟩).2.2.1 : Int), .string (nameT (r1, r2, r3) ⟨#[47]⟩).2.2.2]) ∧ Below w.heap.size w w') := fun w => named_any r1 r2 r3 ⟨#[47]⟩ w
  simp only at HSP
  go_enter Tryz.func68, Tryz.ntmps68
  go_wp2_with fail
  have m0 : Hid (DSt w (((w.alloc (Obj.cells #[.bool a1.1, .slice ao la ca, .int .i64 a1.2.2, .bool a2.1, .slice bo lb cb, .int .i64 a2.2.2] 98)).alloc (Obj.cells #[.bool b1.1, .slice co lc cc, .int .i64 b1.2.2, .bool b2.1, .slice do_ ld cd, .int .i64 b2.2.2] 98)).alloc (Obj.cells #[.int .u64 0, .int .u64 0] 28)) (w.heap.size + 1 + 1) w.heap.size (w.heap.size + 1) (w.heap.size + 1 + 1 + 1) #[.bool a1.1, .slice ao la ca, .int .i64 a1.2.2, .bool a2.1, .slice bo lb cb, .int .i64 a2.2.2] #[.bool b1.1, .slice co lc cc, .int .i64 b1.2.2, .bool b2.1, .slice do_ ld cd, .int .i64 b2.2.2]) := by
    have B0 := blk_old (blk_old (blk_new w (Obj.cells #[.bool a1.1, .slice ao la ca, .int .i64 a1.2.2, .bool a2.1, .slice bo lb cb, .int .i64 a2.2.2] 98)) (Obj.cells #[.bool b1.1, .slice co lc cc, .int .i64 b1.2.2, .bool b2.1, .slice do_ ld cd, .int .i64 b2.2.2] 98)) (Obj.cells #[.int .u64 0, .int .u64 0] 28)
    have B1 := blk_old (blk_new (w.alloc (Obj.cells #[.bool a1.1, .slice ao la ca, .int .i64 a1.2.2, .bool a2.1, .slice bo lb cb, .int .i64 a2.2.2] 98)) (Obj.cells #[.bool b1.1, .slice co lc cc, .int .i64 b1.2.2, .bool b2.1, .slice do_ ld cd, .int .i64 b2.2.2] 98)) (Obj.cells #[.int .u64 0, .int .u64 0] 28)
    have B2 := blk_new ((w.alloc (Obj.cells #[.bool a1.1, .slice ao la ca, .int .i64 a1.2.2, .bool a2.1, .slice bo lb cb, .int .i64 a2.2.2] 98)).alloc (Obj.cells #[.bool b1.1, .slice co lc cc, .int .i64 b1.2.2, .bool b2.1, .slice do_ ld cd, .int .i64 b2.2.2] 98)) (Obj.cells #[.int .u64 0, .int .u64 0] 28)
    simp only [World.size_alloc] at B1 B2
    exact ⟨B0, B1, B2, (((Below.refl _ _).alloc (Nat.le_refl _) _).alloc (by simp) _).alloc (by simp; omega) _, by omega, by omega, by omega, by simp, by omega⟩
  generalize (((w.alloc (Obj.cells #[.bool a1.1, .slice ao la ca, .int .i64 a1.2.2, .bool a2.1, .slice bo lb cb, .int .i64 a2.2.2] 98)).alloc (Obj.cells #[.bool b1.1, .slice co lc cc, .int .i64 b1.2.2, .bool b2.1, .slice do_ ld cd, .int .i64 b2.2.2] 98)).alloc (Obj.cells #[.int .u64 0, .int .u64 0] 28)) = W2 at *
  refine Calls.mono (HH.out _ m0.out.hb) ?_
  rintro ev w1 ⟨rfl, hb1⟩
  have m1 : Hid (DSt w w1 (w.heap.size + 1 + 1) w.heap.size (w.heap.size + 1) (w.heap.size + 1 + 1 + 1) #[.bool a1.1, .slice ao la ca, .int .i64 a1.2.2, .bool a2.1, .slice bo lb cb, .int .i64 a2.2.2] #[.bool b1.1, .slice co lc cc, .int .i64 b1.2.2, .bool b2.1, .slice do_ ld cd, .int .i64 b2.2.2]) := m0.out.below hb1
  clear hb1 m0 HH
  go_wp2_with fail
  go_cut [8, 9] (fun s8 s9 wc => ∃ g, s8 = .pointer (some ⟨g, 0, none⟩) ∧ s9 = .int .i64 (r3 : Int) ∧ Fin w wc (w.heap.size + 1 + 1) g (.int .u64 (r1 : Int)) (.int .u64 (r2 : Int)))
  case first =>
    have iN : Hid (DSt w w1.drew (w.heap.size + 1 + 1) w.heap.size (w.heap.size + 1) (w.heap.size + 1 + 1 + 1) #[.bool a1.1, .slice ao la ca, .int .i64 a1.2.2, .bool a2.1, .slice bo lb cb, .int .i64 a2.2.2] #[.bool b1.1, .slice co lc cc, .int .i64 b1.2.2, .bool b2.1, .slice do_ ld cd, .int .i64 b2.2.2]) := m1.out.drew
    go_region_held3 (fun W => W.cell? ⟨w.heap.size, 0, none⟩ = some (.bool a1.1) ∧ W.cell? ⟨w.heap.size, 1, none⟩ = some (.slice ao la ca) ∧ W.cell? ⟨w.heap.size, 2, none⟩ = some (.int .i64 a1.2.2) ∧ W.cell? ⟨w.heap.size, 3, none⟩ = some (.bool a2.1) ∧ W.cell? ⟨w.heap.size, 4, none⟩ = some (.slice bo lb cb) ∧ W.cell? ⟨w.heap.size, 5, none⟩ = some (.int .i64 a2.2.2) ∧ W.cell? ⟨w.heap.size + 1, 0, none⟩ = some (.bool b1.1) ∧ W.cell? ⟨w.heap.size + 1, 1, none⟩ = some (.slice co lc cc) ∧ W.cell? ⟨w.heap.size + 1, 2, none⟩ = some (.int .i64 b1.2.2) ∧ W.cell? ⟨w.heap.size + 1, 3, none⟩ = some (.bool b2.1) ∧ W.cell? ⟨w.heap.size + 1, 4, none⟩ = some (.slice do_ ld cd) ∧ W.cell? ⟨w.heap.size + 1, 5, none⟩ = some (.int .i64 b2.2.2)) (first | with_reducible exact iN.out.cells | with_reducible exact (m1.out.alloc _).drew.cells | with_reducible exact (iN.out.alloc _).cells | with_reducible exact ((iN.out.alloc _).alloc _).cells | with_reducible exact (iN.out.set2 zf.out _ _).cells)
      (first
        | (go_at_call 122; with_reducible (refine Calls.mono (Q0.out _ ?_) ?_); (with_reducible exact iN.out.hb); rintro e v0 ⟨o0, l0, c0, rfl, hl, hn, hbk⟩
           have E0 : Hid (l0 = _) := hl
           have N0 : Hid (NatV v0 (.slice o0 l0 c0) _) := hn
           have iN : Hid (DSt w v0 (w.heap.size + 1 + 1) w.heap.size (w.heap.size + 1) (w.heap.size + 1 + 1 + 1) #[.bool a1.1, .slice ao la ca, .int .i64 a1.2.2, .bool a2.1, .slice bo lb cb, .int .i64 a2.2.2] #[.bool b1.1, .slice co lc cc, .int .i64 b1.2.2, .bool b2.1, .slice do_ ld cd, .int .i64 b2.2.2]) := iN.out.below hbk
           clear hl hn hbk)
        | (go_at_call 122; with_reducible (refine Calls.mono (Q0.out _ ?_) ?_); (with_reducible exact (m1.out.alloc _).drew.hb); rintro e v0 ⟨o0, l0, c0, rfl, hl, hn, hbk⟩
           have E0 : Hid (l0 = _) := hl
           have N0 : Hid (NatV v0 (.slice o0 l0 c0) _) := hn
           have zf : Hid (Box0 (w.heap.size + 1 + 1 + 1) v0 _) := (Box0.new m1.out.sz).drew.below hbk
           have iN : Hid (DSt w v0 (w.heap.size + 1 + 1) w.heap.size (w.heap.size + 1) (w.heap.size + 1 + 1 + 1) #[.bool a1.1, .slice ao la ca, .int .i64 a1.2.2, .bool a2.1, .slice bo lb cb, .int .i64 a2.2.2] #[.bool b1.1, .slice co lc cc, .int .i64 b1.2.2, .bool b2.1, .slice do_ ld cd, .int .i64 b2.2.2]) := (m1.out.alloc _).drew.below hbk
           clear hl hn hbk)
        | (go_at_call 122; with_reducible (refine Calls.mono (Q1.out _ ?_) ?_); (with_reducible exact iN.out.hb); rintro e v1 ⟨o1, l1, c1, rfl, hl, hn, hbk⟩
           have E1 : Hid (l1 = _) := hl
           have N1 : Hid (NatV v1 (.slice o1 l1 c1) _) := hn
           have N0 : Hid (NatV v1 (.slice o0 l0 c0) _) := N0.out.below hbk (Nat.le_refl _)
           try (have zf : Hid (Box0 (w.heap.size + 1 + 1 + 1) v1 _) := zf.out.below hbk)
           have iN : Hid (DSt w v1 (w.heap.size + 1 + 1) w.heap.size (w.heap.size + 1) (w.heap.size + 1 + 1 + 1) #[.bool a1.1, .slice ao la ca, .int .i64 a1.2.2, .bool a2.1, .slice bo lb cb, .int .i64 a2.2.2] #[.bool b1.1, .slice co lc cc, .int .i64 b1.2.2, .bool b2.1, .slice do_ ld cd, .int .i64 b2.2.2]) := iN.out.below hbk
           clear hl hn hbk)
        | (go_at_call 122; with_reducible (refine Calls.mono (Q1.out _ ?_) ?_); (with_reducible exact (iN.out.alloc _).hb); rintro e v1 ⟨o1, l1, c1, rfl, hl, hn, hbk⟩
           have E1 : Hid (l1 = _) := hl
           have N1 : Hid (NatV v1 (.slice o1 l1 c1) _) := hn
           have N0 : Hid (NatV v1 (.slice o0 l0 c0) _) := (N0.out.below ((Below.refl _ _).alloc (Nat.le_refl _) _) (Nat.le_refl _)).below hbk (Nat.le_refl _)
           have zf : Hid (Box0 (w.heap.size + 1 + 1 + 1) v1 _) := (Box0.new iN.out.sz).below hbk
           have iN : Hid (DSt w v1 (w.heap.size + 1 + 1) w.heap.size (w.heap.size + 1) (w.heap.size + 1 + 1 + 1) #[.bool a1.1, .slice ao la ca, .int .i64 a1.2.2, .bool a2.1, .slice bo lb cb, .int .i64 a2.2.2] #[.bool b1.1, .slice co lc cc, .int .i64 b1.2.2, .bool b2.1, .slice do_ ld cd, .int .i64 b2.2.2]) := (iN.out.alloc _).below hbk
           clear hl hn hbk)
        | (go_at_call 122; with_reducible (refine Calls.mono (Q2.out _ ?_) ?_); (with_reducible exact iN.out.hb); rintro e v2 ⟨o2, l2, c2, rfl, hl, hn, hbk⟩
           have E2 : Hid (l2 = _) := hl
           have N2 : Hid (NatV v2 (.slice o2 l2 c2) _) := hn
           have N0 : Hid (NatV v2 (.slice o0 l0 c0) _) := N0.out.below hbk (Nat.le_refl _)
           have N1 : Hid (NatV v2 (.slice o1 l1 c1) _) := N1.out.below hbk (Nat.le_refl _)
           try (have zf : Hid (Box0 (w.heap.size + 1 + 1 + 1) v2 _) := zf.out.below hbk)
           have iN : Hid (DSt w v2 (w.heap.size + 1 + 1) w.heap.size (w.heap.size + 1) (w.heap.size + 1 + 1 + 1) #[.bool a1.1, .slice ao la ca, .int .i64 a1.2.2, .bool a2.1, .slice bo lb cb, .int .i64 a2.2.2] #[.bool b1.1, .slice co lc cc, .int .i64 b1.2.2, .bool b2.1, .slice do_ ld cd, .int .i64 b2.2.2]) := iN.out.below hbk
           clear hl hn hbk)
        | (go_at_call 122; with_reducible (refine Calls.mono (Q2.out _ ?_) ?_); (with_reducible exact (iN.out.alloc _).hb); rintro e v2 ⟨o2, l2, c2, rfl, hl, hn, hbk⟩
           have E2 : Hid (l2 = _) := hl
           have N2 : Hid (NatV v2 (.slice o2 l2 c2) _) := hn
           have N0 : Hid (NatV v2 (.slice o0 l0 c0) _) := (N0.out.below ((Below.refl _ _).alloc (Nat.le_refl _) _) (Nat.le_refl _)).below hbk (Nat.le_refl _)
           have N1 : Hid (NatV v2 (.slice o1 l1 c1) _) := (N1.out.below ((Below.refl _ _).alloc (Nat.le_refl _) _) (Nat.le_refl _)).below hbk (Nat.le_refl _)
           have zf : Hid (Box0 (w.heap.size + 1 + 1 + 1) v2 _) := (Box0.new iN.out.sz).below hbk
           have iN : Hid (DSt w v2 (w.heap.size + 1 + 1) w.heap.size (w.heap.size + 1) (w.heap.size + 1 + 1 + 1) #[.bool a1.1, .slice ao la ca, .int .i64 a1.2.2, .bool a2.1, .slice bo lb cb, .int .i64 a2.2.2] #[.bool b1.1, .slice co lc cc, .int .i64 b1.2.2, .bool b2.1, .slice do_ ld cd, .int .i64 b2.2.2]) := (iN.out.alloc _).below hbk
           clear hl hn hbk)
        | (go_at_call 122; with_reducible (refine Calls.mono (Q3.out _ ?_) ?_); (with_reducible exact iN.out.hb); rintro e v3 ⟨o3, l3, c3, rfl, hl, hn, hbk⟩
           have E3 : Hid (l3 = _) := hl
           have N3 : Hid (NatV v3 (.slice o3 l3 c3) _) := hn
           have N0 : Hid (NatV v3 (.slice o0 l0 c0) _) := N0.out.below hbk (Nat.le_refl _)
           have N1 : Hid (NatV v3 (.slice o1 l1 c1) _) := N1.out.below hbk (Nat.le_refl _)
           have N2 : Hid (NatV v3 (.slice o2 l2 c2) _) := N2.out.below hbk (Nat.le_refl _)
           try (have zf : Hid (Box0 (w.heap.size + 1 + 1 + 1) v3 _) := zf.out.below hbk)
           have iN : Hid (DSt w v3 (w.heap.size + 1 + 1) w.heap.size (w.heap.size + 1) (w.heap.size + 1 + 1 + 1) #[.bool a1.1, .slice ao la ca, .int .i64 a1.2.2, .bool a2.1, .slice bo lb cb, .int .i64 a2.2.2] #[.bool b1.1, .slice co lc cc, .int .i64 b1.2.2, .bool b2.1, .slice do_ ld cd, .int .i64 b2.2.2]) := iN.out.below hbk
           clear hl hn hbk)
        | (go_at_call 122; with_reducible (refine Calls.mono (Q3.out _ ?_) ?_); (with_reducible exact (iN.out.alloc _).hb); rintro e v3 ⟨o3, l3, c3, rfl, hl, hn, hbk⟩
           have E3 : Hid (l3 = _) := hl
           have N3 : Hid (NatV v3 (.slice o3 l3 c3) _) := hn
           have N0 : Hid (NatV v3 (.slice o0 l0 c0) _) := (N0.out.below ((Below.refl _ _).alloc (Nat.le_refl _) _) (Nat.le_refl _)).below hbk (Nat.le_refl _)
           have N1 : Hid (NatV v3 (.slice o1 l1 c1) _) := (N1.out.below ((Below.refl _ _).alloc (Nat.le_refl _) _) (Nat.le_refl _)).below hbk (Nat.le_refl _)
           have N2 : Hid (NatV v3 (.slice o2 l2 c2) _) := (N2.out.below ((Below.refl _ _).alloc (Nat.le_refl _) _) (Nat.le_refl _)).below hbk (Nat.le_refl _)
           have zf : Hid (Box0 (w.heap.size + 1 + 1 + 1) v3 _) := (Box0.new iN.out.sz).below hbk
           have iN : Hid (DSt w v3 (w.heap.size + 1 + 1) w.heap.size (w.heap.size + 1) (w.heap.size + 1 + 1 + 1) #[.bool a1.1, .slice ao la ca, .int .i64 a1.2.2, .bool a2.1, .slice bo lb cb, .int .i64 a2.2.2] #[.bool b1.1, .slice co lc cc, .int .i64 b1.2.2, .bool b2.1, .slice do_ ld cd, .int .i64 b2.2.2]) := (iN.out.alloc _).below hbk
           clear hl hn hbk)
        | (go_at_call 63; refine Calls.mono (HSP.out _ _ o0 o1 o2 o3 l0 l1 l2 l3 c0 c1 c2 c3 ?_ E0.out E1.out E2.out E3.out ?_ ?_ ?_ ?_) ?_
           · exact blk_new v3 _
           · exact N0.out.below ((Below.refl _ v3).alloc (Nat.le_refl _) _) (Nat.le_refl _)
           · exact N1.out.below ((Below.refl _ v3).alloc (Nat.le_refl _) _) (Nat.le_refl _)
           · exact N2.out.below ((Below.refl _ v3).alloc (Nat.le_refl _) _) (Nat.le_refl _)
           · exact N3.out.below ((Below.refl _ v3).alloc (Nat.le_refl _) _) (Nat.le_refl _)
           rintro e v4 ⟨rfl, hbk⟩
           try (have zf : Hid (Box0 (w.heap.size + 1 + 1 + 1) v4 _) := (zf.out.alloc _).below hbk; obtain ⟨zc0, zc1, zc2, zc3⟩ := blk2 zf.out.1)
           have iN : Hid (DSt w v4 (w.heap.size + 1 + 1) w.heap.size (w.heap.size + 1) (w.heap.size + 1 + 1 + 1) #[.bool a1.1, .slice ao la ca, .int .i64 a1.2.2, .bool a2.1, .slice bo lb cb, .int .i64 a2.2.2] #[.bool b1.1, .slice co lc cc, .int .i64 b1.2.2, .bool b2.1, .slice do_ ld cd, .int .i64 b2.2.2]) := (iN.out.alloc _).below hbk
           clear hbk)
        | (go_at_call 63; refine Calls.mono (HSP.out _ _ o0 o1 o2 o3 l0 l1 l2 l3 c0 c1 c2 c3 ?_ E0.out E1.out E2.out E3.out ?_ ?_ ?_ ?_) ?_
           · exact blk_old (blk_new v3 _) _
           · exact N0.out.below (((Below.refl _ v3).alloc (Nat.le_refl _) _).alloc (by simp) _) (Nat.le_refl _)
           · exact N1.out.below (((Below.refl _ v3).alloc (Nat.le_refl _) _).alloc (by simp) _) (Nat.le_refl _)
           · exact N2.out.below (((Below.refl _ v3).alloc (Nat.le_refl _) _).alloc (by simp) _) (Nat.le_refl _)
           · exact N3.out.below (((Below.refl _ v3).alloc (Nat.le_refl _) _).alloc (by simp) _) (Nat.le_refl _)
           rintro e v4 ⟨rfl, hbk⟩
           have zf : Hid (Box0 (w.heap.size + 1 + 1 + 1) v4 (v3.heap.size + 1)) := by
             have hz := (Box0.new (iN.out.alloc (Obj.cells #[.bool q0.1, .slice o0 l0 c0, .int .i64 q0.2.2, .bool q1.1, .slice o1 l1 c1, .int .i64 q1.2.2, .bool q2.1, .slice o2 l2 c2, .int .i64 q2.2.2, .bool q3.1, .slice o3 l3 c3, .int .i64 q3.2.2] 92)).sz).below hbk
             simp only [World.size_alloc] at hz
             exact hz
           obtain ⟨zc0, zc1, zc2, zc3⟩ := blk2 zf.out.1
           have iN : Hid (DSt w v4 (w.heap.size + 1 + 1) w.heap.size (w.heap.size + 1) (w.heap.size + 1 + 1 + 1) #[.bool a1.1, .slice ao la ca, .int .i64 a1.2.2, .bool a2.1, .slice bo lb cb, .int .i64 a2.2.2] #[.bool b1.1, .slice co lc cc, .int .i64 b1.2.2, .bool b2.1, .slice do_ ld cd, .int .i64 b2.2.2]) := ((iN.out.alloc _).alloc _).below hbk
           clear hbk)
        | (go_at_call 63; refine Calls.mono (HSP.out _ _ o0 o1 o2 o3 l0 l1 l2 l3 c0 c1 c2 c3 ?_ E0.out E1.out E2.out E3.out ?_ ?_ ?_ ?_) ?_
           · (have hgx := blk_new (v3.alloc (Obj.cells #[.int .u64 0, .int .u64 0] 28)) (Obj.cells #[.bool q0.1, .slice o0 l0 c0, .int .i64 q0.2.2, .bool q1.1, .slice o1 l1 c1, .int .i64 q1.2.2, .bool q2.1, .slice o2 l2 c2, .int .i64 q2.2.2, .bool q3.1, .slice o3 l3 c3, .int .i64 q3.2.2] 92); simp only [World.size_alloc] at hgx; exact hgx)
           · exact N0.out.below (((Below.refl _ v3).alloc (Nat.le_refl _) _).alloc (by simp) _) (Nat.le_refl _)
           · exact N1.out.below (((Below.refl _ v3).alloc (Nat.le_refl _) _).alloc (by simp) _) (Nat.le_refl _)
           · exact N2.out.below (((Below.refl _ v3).alloc (Nat.le_refl _) _).alloc (by simp) _) (Nat.le_refl _)
           · exact N3.out.below (((Below.refl _ v3).alloc (Nat.le_refl _) _).alloc (by simp) _) (Nat.le_refl _)
           rintro e v4 ⟨rfl, hbk⟩
           have zf : Hid (Box0 (w.heap.size + 1 + 1 + 1) v4 v3.heap.size) := ((Box0.new iN.out.sz).alloc _).below hbk
           obtain ⟨zc0, zc1, zc2, zc3⟩ := blk2 zf.out.1
           have iN : Hid (DSt w v4 (w.heap.size + 1 + 1) w.heap.size (w.heap.size + 1) (w.heap.size + 1 + 1 + 1) #[.bool a1.1, .slice ao la ca, .int .i64 a1.2.2, .bool a2.1, .slice bo lb cb, .int .i64 a2.2.2] #[.bool b1.1, .slice co lc cc, .int .i64 b1.2.2, .bool b2.1, .slice do_ ld cd, .int .i64 b2.2.2]) := ((iN.out.alloc _).alloc _).below hbk
           clear hbk))
    all_goals (go_wp2_with fail; go_meet; refine ⟨_, rfl, rfl, ?_⟩)
    all_goals first | with_reducible exact iN.out.finSet zf.out _ _ | with_reducible exact iN.out.finNew _ _
  case rest =>
    obtain ⟨g, rfl, rfl, F⟩ := hcut
    have HF : Hid (Fin w wc (w.heap.size + 1 + 1) g (.int .u64 (r1 : Int)) (.int .u64 (r2 : Int))) := F
    obtain ⟨p0, p1, -, -⟩ := blk2 F.c
    clear F
    go_wp2_with fail
    refine Calls.mono (HNM.out _) ?_
    rintro ev w9 ⟨rfl, hb9⟩
    have HK : Hid (w9.heap[(w.heap.size + 1 + 1)]? = _) := blk_below HF.out.k2 hb9
    have HB : Hid (Below w.heap.size w w9) := HF.out.hb.trans (hb9.mono HF.out.hb.size)
    clear hb9 p0 p1
    obtain ⟨q0, q1, q2, q3⟩ := blk2 HK.out
    go_wp2_with fail
    obtain ⟨p0, p1, -, -⟩ := blk2 (blk_store2 (a := .int .u64 ((nameT (r1, r2, r3) ⟨#[47]⟩).1 : Int)) (b := .int .u64 ((nameT (r1, r2, r3) ⟨#[47]⟩).2.1 : Int)) HK.out)
    refine bodyPost_ret (v := .tuple #[.agg #[.int .u64 ((nameT (r1, r2, r3) ⟨#[47]⟩).1 : Int), .int .u64 ((nameT (r1, r2, r3) ⟨#[47]⟩).2.1 : Int)], .int .i64 ((nameT (r1, r2, r3) ⟨#[47]⟩).2.2.1 : Int), .string (nameT (r1, r2, r3) ⟨#[47]⟩).2.2.2]) (by simp [results, Tryz.results68, go_sem, p0, p1]) rfl ?_
    exact ⟨rfl, (HB.out.setCell (by exact HF.out.l2) _).setCell (by exact HF.out.l2) _⟩
end Go.Proofs.YtonhpkigoplmaaaGreatDoor
namespace Go.Proofs.YtonhpkigoplmaaaGreatDoor
open Go.RowKit Go.Extern Ieee

/-- A number of few digits. -/
structure Sm (x : Bool × Nat × Int) : Prop where
  b : bl x.2.1 ≤ 10000
  l : -10000 ≤ x.2.2
  u : x.2.2 ≤ 10000

theorem Sm.small {x : Bool × Nat × Int} (h : Sm x) : Small x := ⟨by have := h.b; omega, by have := h.l; omega, by have := h.u; omega⟩
theorem Sm.len {x : Bool × Nat × Int} (h : Sm x) : (digits x.2.1).length ≤ 1000 := by have := len_of_bl x.2.1; have := h.b; omega
theorem Sm.both {x : Bool × Nat × Int} (h : Sm x) : Small x ∧ (digits x.2.1).length ≤ 400000 := ⟨h.small, by have := h.len; omega⟩

/-- What is known of a plain float's number. -/
structure Pl (x : Bool × Nat × Int) : Prop where
  n : x.2.1 < 9007199254740992
  l : -952 ≤ x.2.2
  u : x.2.2 ≤ 848

theorem pl_of {b : Nat} {x : Bool × Nat × Int} (h : plainN b = some x) : Pl x := by
  rcases plain_num h with h | ⟨h1, h2, h3, h4⟩
  · subst h; exact ⟨by decide, by decide, by decide⟩
  · exact ⟨h2, h3, h4⟩

theorem Pl.bits {x : Bool × Nat × Int} (h : Pl x) : bl x.2.1 ≤ 53 := bl_le (by rw [p53]; exact h.n)
theorem Pl.sm {x : Bool × Nat × Int} (h : Pl x) : Sm x := ⟨by have := h.bits; omega, by have := h.l; omega, by have := h.u; omega⟩
theorem Pl.neg {x : Bool × Nat × Int} (h : Pl x) : Pl (negT x) := ⟨h.n, h.l, h.u⟩

theorem bl_zero2 : bl 0 = 0 := bl_zero
theorem bl_mono2 {n m : Nat} (h : n ≤ m) : bl n ≤ bl m := by
  by_cases h0 : n = 0
  · subst h0; rw [bl_zero2]; exact Nat.zero_le _
  · exact bl_mono h0 h
theorem lt_bl (n : Nat) : n < 2 ^ bl n := by
  rcases Nat.eq_zero_or_pos n with h | h
  · subst h; exact Nat.two_pow_pos _
  · exact (bl_bounds h).2.1
theorem bl_shift2 (n k : Nat) : bl (n * 2 ^ k) ≤ bl n + k := bl_le (by rw [Nat.pow_add]; exact Nat.mul_lt_mul_of_pos_right (lt_bl n) (Nat.two_pow_pos k))
theorem bl_mul2 (m n : Nat) : bl (m * n) ≤ bl m + bl n := bl_le (by rw [Nat.pow_add]; exact Nat.mul_lt_mul'' (lt_bl m) (lt_bl n))
theorem bl_add2 {a b M : Nat} (ha : bl a ≤ M) (hb : bl b ≤ M) : bl (a + b) ≤ M + 1 := by
  refine bl_le ?_
  have h1 := Nat.lt_of_lt_of_le (lt_bl a) (Nat.pow_le_pow_right (by decide) ha)
  have h2 := Nat.lt_of_lt_of_le (lt_bl b) (Nat.pow_le_pow_right (by decide) hb)
  rw [Nat.pow_succ]; omega

theorem Pl.sum {x y : Bool × Nat × Int} (hx : Pl x) (hy : Pl y) : Sm (sumT x y) := by
  obtain ⟨s, n, e⟩ := x
  obtain ⟨t, m, f⟩ := y
  have b1 := hx.bits; have b2 := hy.bits
  have l1 := hx.l; have l2 := hy.l; have u1 := hx.u; have u2 := hy.u
  simp only at b1 b2 l1 l2 u1 u2
  have a1 : bl (lvA n e f) ≤ 2000 := by
    have := bl_shift2 n (e - min e f).toNat
    unfold lvA; omega
  have a2 : bl (lvB m e f) ≤ 2000 := by
    have := bl_shift2 m (f - min e f).toNat
    unfold lvB; omega
  have a3 := bl_add2 a1 a2
  have a4 := bl_mono2 (Nat.sub_le (lvA n e f) (lvB m e f))
  have a5 := bl_mono2 (Nat.sub_le (lvB m e f) (lvA n e f))
  show Sm (sumN s n e t m f)
  unfold sumN
  split
  · exact ⟨by simp only; omega, by simp only; omega, by simp only; omega⟩
  · split
    · exact ⟨by simp only; rw [bl_zero2]; omega, by simp only; omega, by simp only; omega⟩
    · split
      · exact ⟨by simp only; omega, by simp only; omega, by simp only; omega⟩
      · exact ⟨by simp only; omega, by simp only; omega, by simp only; omega⟩

theorem Pl.prod {x y : Bool × Nat × Int} (hx : Pl x) (hy : Pl y) : Sm (prodN x y) := by
  have b1 := hx.bits; have b2 := hy.bits
  have l1 := hx.l; have l2 := hy.l; have u1 := hx.u; have u2 := hy.u
  have := bl_mul2 x.2.1 y.2.1
  unfold prodN
  exact ⟨by simp only; omega, by simp only; omega, by simp only; omega⟩

theorem bl_mark {q : Nat} {w : Bool} {M : Nat} (h : bl q ≤ M) : bl (2 * q + (if w then 0 else 1)) ≤ M + 1 := by
  refine bl_le ?_
  have h1 := Nat.lt_of_lt_of_le (lt_bl q) (Nat.pow_le_pow_right (by decide) h)
  rw [Nat.pow_succ]
  cases w <;> simp <;> omega

theorem Pl.quo {x y : Bool × Nat × Int} (hx : Pl x) (hy : Pl y) : Sm (quoN x y) := by
  have b1 := hx.bits; have b2 := hy.bits
  have l1 := hx.l; have l2 := hy.l; have u1 := hx.u; have u2 := hy.u
  have h1 := bl_shift2 x.2.1 (60 + bl y.2.1)
  have h2 := bl_mono2 (Nat.div_le_self (x.2.1 * 2 ^ (60 + bl y.2.1)) y.2.1)
  have h3 := bl_mark (q := x.2.1 * 2 ^ (60 + bl y.2.1) / y.2.1) (w := decide (x.2.1 * 2 ^ (60 + bl y.2.1) % y.2.1 = 0)) (Nat.le_refl _)
  unfold quoN markN
  exact ⟨by simp only; omega, by simp only; omega, by simp only; omega⟩

theorem Pl.root {x : Bool × Nat × Int} (hx : Pl x) : Sm (rootN x) := by
  have b1 := hx.bits
  have l1 := hx.l; have u1 := hx.u
  have hk : rk 130 x.2.2 ≤ 131 := by unfold rk; split <;> omega
  have h1 := bl_shift2 x.2.1 (rk 130 x.2.2)
  have h0 := (isq_spec (x.2.1 * 2 ^ rk 130 x.2.2)).1
  have h2 : isq (x.2.1 * 2 ^ rk 130 x.2.2) ≤ x.2.1 * 2 ^ rk 130 x.2.2 := Nat.le_trans (Nat.le_mul_self _) h0
  have h3 := bl_mono2 h2
  have h4 := bl_mark (q := isq (x.2.1 * 2 ^ rk 130 x.2.2)) (w := decide (isq (x.2.1 * 2 ^ rk 130 x.2.2) * isq (x.2.1 * 2 ^ rk 130 x.2.2) = x.2.1 * 2 ^ rk 130 x.2.2)) (Nat.le_refl _)
  unfold rootN markN
  exact ⟨by simp only; omega, by simp only; omega, by simp only; omega⟩

/-- The sign, by the place. -/
theorem sgn_pos (x : Bool × Nat × Int) (way : Int) : (sgnI x.1 x.2.1 < 0 ↔ posV x way < 0) ∧ (0 < sgnI x.1 x.2.1 ↔ 0 < posV x way) ∧ (x.2.1 = 0 ↔ posV x way = 0) := by
  obtain ⟨s, n, e⟩ := x
  have c := clampR_bounds (endR s n e way)
  unfold sgnI posV
  simp only
  by_cases h0 : n = 0
  · rw [if_pos h0, if_pos h0]; simp [h0]
  · rw [if_neg h0, if_neg h0]
    unfold sgI
    cases s
    · rw [if_neg Bool.false_ne_true, if_neg Bool.false_ne_true]; omega
    · rw [if_pos rfl, if_pos rfl]; omega

theorem around_g {x y : Bool × Nat × Int} (sx : Sm x) (sy : Sm y) (W : World) (o0 o1 : Option Addr) (l0 l1 c0 c1 : Nat) (h0 : l0 = (digits x.2.1).length) (h1 : l1 = (digits y.2.1).length) (n0 : NatV W (.slice o0 l0 c0) x.2.1) (n1 : NatV W (.slice o1 l1 c1) y.2.1) :
    Calls Tryz.prog 62 #[.agg #[.bool x.1, .slice o0 l0 c0, .int .i64 x.2.2], .agg #[.bool y.1, .slice o1 l1 c1, .int .i64 y.2.2]] W fun ev w' => ev = .returned (.tuple #[.agg #[.int .u64 ((aroundN x y).1 : Int), .int .u64 ((aroundN x y).2.1 : Int)], .int .i64 ((aroundN x y).2.2 : Int)]) ∧ Below W.heap.size W w' :=
  around_any _ _ x y W ⟨o0, l0, c0, rfl, h0, n0⟩ ⟨o1, l1, c1, rfl, h1, n1⟩ sx.small sy.small

theorem span_g {q0 q1 q2 q3 : Bool × Nat × Int} (s0 : Sm q0) (s1 : Sm q1) (s2 : Sm q2) (s3 : Sm q3) (g : Nat) (W : World) (o0 o1 o2 o3 : Option Addr) (l0 l1 l2 l3 c0 c1 c2 c3 : Nat)
    (hg : W.heap[g]? = some (.cells #[.bool q0.1, .slice o0 l0 c0, .int .i64 q0.2.2, .bool q1.1, .slice o1 l1 c1, .int .i64 q1.2.2, .bool q2.1, .slice o2 l2 c2, .int .i64 q2.2.2, .bool q3.1, .slice o3 l3 c3, .int .i64 q3.2.2] 92 (0, 0)))
    (e0 : l0 = (digits q0.2.1).length) (e1 : l1 = (digits q1.2.1).length) (e2 : l2 = (digits q2.2.1).length) (e3 : l3 = (digits q3.2.1).length) (n0 : NatV W (.slice o0 l0 c0) q0.2.1) (n1 : NatV W (.slice o1 l1 c1) q1.2.1) (n2 : NatV W (.slice o2 l2 c2) q2.2.1) (n3 : NatV W (.slice o3 l3 c3) q3.2.1) :
    Calls Tryz.prog 63 #[.slice (some ⟨g, 0, none⟩) 4 4] W fun ev w' => ev = .returned (.tuple #[.agg #[.int .u64 ((spanT q0 q1 q2 q3).1 : Int), .int .u64 ((spanT q0 q1 q2 q3).2.1 : Int)], .int .i64 ((spanT q0 q1 q2 q3).2.2 : Int)]) ∧ Below W.heap.size W w' :=
  span_any g _ _ _ _ W (four_of hg e0 e1 e2 e3 n0 n1 n2 n3 s0.both s1.both s2.both s3.both)

theorem sum_g {x y : Bool × Nat × Int} (sx : Sm x) (sy : Sm y) (W : World) (po qo : Option Addr) (lp cp lq cq : Nat) (h0 : lp = (digits x.2.1).length) (n0 : NatV W (.slice po lp cp) x.2.1) (h1 : lq = (digits y.2.1).length) (n1 : NatV W (.slice qo lq cq) y.2.1) :
    Calls Tryz.prog 65 #[.agg #[.bool x.1, .slice po lp cp, .int .i64 x.2.2], .agg #[.bool y.1, .slice qo lq cq, .int .i64 y.2.2]] W fun ev w'' => ∃ vo vl vc, ev = .returned (.agg #[.bool (sumT x y).1, .slice vo vl vc, .int .i64 (sumT x y).2.2]) ∧ vl = (digits (sumT x y).2.1).length ∧ NatV w'' (.slice vo vl vc) (sumT x y).2.1 ∧ Below W.heap.size W w'' := by
  have a := sx.len; have b := sy.len; have c := sx.l; have d := sx.u; have e := sy.l; have f := sy.u
  refine (sum_any _ _ x.1 y.1 x.2.1 y.2.1 x.2.2 y.2.2 W ⟨po, lp, cp, rfl, h0, n0⟩ ⟨qo, lq, cq, rfl, h1, n1⟩ (by omega) (by omega) (by omega) (by omega) (by omega) (by omega)).mono ?_
  rintro ev w'' ⟨v, rfl, ⟨vo, vl, vc, rfl, h2, h3⟩, h4⟩
  exact ⟨vo, vl, vc, rfl, h2, h3, h4⟩

theorem prod_g {x y : Bool × Nat × Int} (sx : Sm x) (sy : Sm y) (W : World) (po qo : Option Addr) (lp cp lq cq : Nat) (h0 : lp = (digits x.2.1).length) (n0 : NatV W (.slice po lp cp) x.2.1) (h1 : lq = (digits y.2.1).length) (n1 : NatV W (.slice qo lq cq) y.2.1) :
    Calls Tryz.prog 67 #[.agg #[.bool x.1, .slice po lp cp, .int .i64 x.2.2], .agg #[.bool y.1, .slice qo lq cq, .int .i64 y.2.2]] W fun ev w'' => ∃ vo vl vc, ev = .returned (.agg #[.bool (prodN x y).1, .slice vo vl vc, .int .i64 (prodN x y).2.2]) ∧ vl = (digits (prodN x y).2.1).length ∧ NatV w'' (.slice vo vl vc) (prodN x y).2.1 ∧ Below W.heap.size W w'' := by
  have a := sx.len; have b := sy.len; have c := sx.l; have d := sx.u; have e := sy.l; have f := sy.u
  refine (product_any _ _ x.1 y.1 x.2.1 y.2.1 x.2.2 y.2.2 W ⟨po, lp, cp, rfl, h0, n0⟩ ⟨qo, lq, cq, rfl, h1, n1⟩ (by omega) (by omega) (by omega) (by omega) (by omega) (by omega)).mono ?_
  rintro ev w'' ⟨v, rfl, ⟨vo, vl, vc, rfl, h2, h3⟩, h4⟩
  exact ⟨vo, vl, vc, rfl, h2, h3, h4⟩

theorem root_g {x : Bool × Nat × Int} (sx : Sm x) (W : World) (po : Option Addr) (lp cp : Nat) (h0 : lp = (digits x.2.1).length) (n0 : NatV W (.slice po lp cp) x.2.1) :
    Calls Tryz.prog 70 #[.agg #[.bool x.1, .slice po lp cp, .int .i64 x.2.2]] W fun ev w'' => ∃ vo vl vc, ev = .returned (.agg #[.bool (rootN x).1, .slice vo vl vc, .int .i64 (rootN x).2.2]) ∧ vl = (digits (rootN x).2.1).length ∧ NatV w'' (.slice vo vl vc) (rootN x).2.1 ∧ Below W.heap.size W w'' := by
  have a := sx.len; have c := sx.l; have d := sx.u
  refine (rooted_any _ x.1 x.2.1 x.2.2 W ⟨po, lp, cp, rfl, h0, n0⟩ (by omega) (by omega) (by omega)).mono ?_
  rintro ev w'' ⟨v, c, rfl, hc, ⟨vo, vl, vc, rfl, h2, h3⟩, h4⟩
  rw [← root_rootN hc]
  exact ⟨vo, vl, vc, rfl, h2, h3, h4⟩

theorem quo_g {x y : Bool × Nat × Int} (sx : Sm x) (sy : Sm y) (h0 : y.2.1 ≠ 0) (u v : Value) (W : World) (hu : NumV W u x.1 x.2.1 x.2.2) (hv : NumV W v y.1 y.2.1 y.2.2) :
    Calls Tryz.prog 122 #[u, v] W fun ev w'' => ∃ z, ev = .returned z ∧ NumV w'' z (quoN x y).1 (quoN x y).2.1 (quoN x y).2.2 ∧ Below W.heap.size W w'' := by
  have a := sx.len; have b := sy.len; have c := sx.l; have d := sx.u; have e := sy.l; have f := sy.u
  rw [← quoT_quoN]
  exact quotient_any _ _ x.1 y.1 x.2.1 y.2.1 x.2.2 y.2.2 W hu hv (by omega) (by omega) (by omega) (by omega) (by omega) (by omega) (by omega)

theorem iv_ne {l h : Nat} (i : Iv l h) (hz : holdsT (plT l) (plT h) = false) : (plT l).2.1 ≠ 0 ∧ (plT h).2.1 ≠ 0 := by
  have a := sgn_pos (plT l) 1
  have b := sgn_pos (plT h) 1
  rw [i.v1 1] at a
  rw [i.v2 1] at b
  have hl := i.le
  unfold holdsT at hz
  rw [Bool.and_eq_false_iff, decide_eq_false_iff_not, decide_eq_false_iff_not] at hz
  constructor
  · intro h0; have := a.2.2.1 h0; omega
  · intro h0; have := b.2.2.1 h0; omega

set_option maxRecDepth 100000 in
theorem refOp_any (k : Int) (xl xh yl yh : Nat) (w : World) (h1 : xl < 18446744073709551616) (h2 : xh < 18446744073709551616) (h3 : yl < 18446744073709551616) (h4 : yh < 18446744073709551616)
    (al ah bl_ bh : Nat) (e1 : al = (makeN xl xh).1) (e2 : ah = (makeN xl xh).2.1) (e3 : bl_ = (makeN yl yh).1) (e4 : bh = (makeN yl yh).2.1) (r : Nat × Nat × Nat × ByteArray) (hr : r = refOpN k (plT al) (plT ah) (plT bl_) (plT bh)) :
    Calls Tryz.prog 29 #[.int .i64 k, .agg #[.int .u64 (xl : Int), .int .u64 (xh : Int)], .agg #[.int .u64 (yl : Int), .int .u64 (yh : Int)]] w fun e w' => e = .returned (.tuple #[.agg #[.int .u64 (r.1 : Int), .int .u64 (r.2.1 : Int)], .int .i64 (r.2.2.1 : Int), .string r.2.2.2]) ∧ Below w.heap.size w w' := by
  have iA : Iv al ah := by rw [e1, e2]; exact made_iv xl xh h1 h2
  have iB : Iv bl_ bh := by rw [e3, e4]; exact made_iv yl yh h3 h4
  have hx : MadeG #[.agg #[.int .u64 (xl : Int), .int .u64 (xh : Int)]] (plT al) (plT ah) := by rw [e1, e2]; exact made_gives xl xh h1 h2
  have hy : MadeG #[.agg #[.int .u64 (yl : Int), .int .u64 (yh : Int)]] (plT bl_) (plT bh) := by rw [e3, e4]; exact made_gives yl yh h3 h4
  clear e1 e2 e3 e4 h1 h2 h3 h4
  have p1 := pl_of iA.p1
  have p2 := pl_of iA.p2
  have p3 := pl_of iB.p1
  have p4 := pl_of iB.p2
  have hne := iv_ne iB
  clear iA iB
  generalize plT al = a1 at *
  generalize plT ah = a2 at *
  generalize plT bl_ = b1 at *
  generalize plT bh = b2 at *
  subst hr
  unfold refOpN
  by_cases k0 : k = 0
  · subst k0
    rw [if_pos rfl]
    exact refOp_neg xl xh yl yh a1 a2 b1 b2 _ _ _ w hx hy (around_g p2.neg.sm p1.neg.sm)
  rw [if_neg k0]
  by_cases k1 : k = 1
  · subst k1
    rw [if_pos rfl]
    exact refOp_hull xl xh yl yh a1 a2 b1 b2 _ _ _ w hx hy (span_g p1.sm p2.sm p3.sm p4.sm)
  rw [if_neg k1]
  by_cases k2 : k = 2
  · subst k2
    rw [if_pos rfl]
    exact refOp_meet xl xh yl yh a1 a2 b1 b2 (meetT a1 a2 b1 b2).1 (meetT a1 a2 b1 b2).2.1 (meetT a1 a2 b1 b2).2.2 ⟨#[]⟩ w hx hy (fun W va vb ha hb => meet_any va vb a1 a2 b1 b2 W ha hb p1.sm.both p2.sm.both p3.sm.both p4.sm.both)
  rw [if_neg k2]
  by_cases k3 : k = 3
  · subst k3
    rw [if_pos rfl]
    exact refOp_add xl xh yl yh a1 a2 b1 b2 _ _ _ _ _ w hx hy (sum_g p1.sm p3.sm) (sum_g p2.sm p4.sm) (around_g (p1.sum p3) (p2.sum p4))
  rw [if_neg k3]
  by_cases k4 : k = 4
  · subst k4
    rw [if_pos rfl]
    exact refOp_sub xl xh yl yh a1 a2 b1 b2 (sumT a1 (negT b2)) (sumT a2 (negT b1)) (aroundN (sumT a1 (negT b2)) (sumT a2 (negT b1))).1 (aroundN (sumT a1 (negT b2)) (sumT a2 (negT b1))).2.1 (aroundN (sumT a1 (negT b2)) (sumT a2 (negT b1))).2.2 w hx hy (sum_g (x := a1) (y := negT b2) p1.sm p4.neg.sm) (sum_g (x := a2) (y := negT b1) p2.sm p3.neg.sm) (around_g (p1.sum p4.neg) (p2.sum p3.neg))
  rw [if_neg k4]
  by_cases k5 : k = 5
  · subst k5
    rw [if_pos rfl]
    exact refOp_mul xl xh yl yh a1 a2 b1 b2 _ _ _ _ _ _ _ w hx hy (prod_g p1.sm p3.sm) (prod_g p1.sm p4.sm) (prod_g p2.sm p3.sm) (prod_g p2.sm p4.sm) (span_g (p1.prod p3) (p1.prod p4) (p2.prod p3) (p2.prod p4))
  rw [if_neg k5]
  by_cases k6 : k = 6
  · subst k6
    rw [if_pos rfl]
    cases hz : holdsT b1 b2
    · rw [if_neg Bool.false_ne_true]
      obtain ⟨n1, n2⟩ := hne hz
      exact refOp_div xl xh yl yh a1 a2 b1 b2 _ _ _ _ w hx hy (fun W va vb ha hb => divided_any va vb a1 a2 b1 b2 (quoN a1 b1) (quoN a1 b2) (quoN a2 b1) (quoN a2 b2) W ha hb hz (fun u v w' hu hv => quo_g p1.sm p3.sm n1 u v w' hu hv) (fun u v w' hu hv => quo_g p1.sm p4.sm n2 u v w' hu hv) (fun u v w' hu hv => quo_g p2.sm p3.sm n1 u v w' hu hv) (fun u v w' hu hv => quo_g p2.sm p4.sm n2 u v w' hu hv) (p1.quo p3).both (p1.quo p4).both (p2.quo p3).both (p2.quo p4).both _ rfl)
    · rw [if_pos rfl]
      exact refOp_div xl xh yl yh a1 a2 b1 b2 0 0 4 ⟨#[47]⟩ w hx hy (fun W va vb ha hb => divided_zero va vb a1 a2 b1 b2 W ha hb hz)
  rw [if_neg k6]
  by_cases k7 : k = 7
  · subst k7
    rw [if_pos rfl]
    by_cases hs : sgnI a1.1 a1.2.1 < 0
    · rw [if_pos hs]
      exact refOp_sqrtn xl xh yl yh a1 a2 b1 b2 w hx hy hs
    · rw [if_neg hs]
      exact refOp_sqrt xl xh yl yh a1 a2 b1 b2 _ _ _ _ _ w hx hy hs (root_g p1.sm) (root_g p2.sm) (around_g p1.root p2.root)
  rw [if_neg k7]
  exact refOp_else xl xh yl yh a1 a2 b1 b2 k _ _ _ w hx hy k0 k1 k2 k3 k4 k5 k6 k7 (around_g p1.sm p2.sm)
end Go.Proofs.YtonhpkigoplmaaaGreatDoor
namespace Go.Proofs.YtonhpkigoplmaaaGreatDoor
open Go.RowKit Go.Extern Ieee
attribute [local go_sem] run_store_float

theorem ErrIs.set {A : Nat → Addr} {w : World} {v : Value} {k : Nat} {s : ByteArray} {g j : Nat} {u : Value} {t : TypeId} (h : ErrIs A w v k s) (hg : BoxT w g t) (ht : t ≠ 138) : ErrIs A (w.setCell ⟨g, j, none⟩ u) v k s := by
  rcases h with ⟨rfl, rfl, rfl⟩ | ⟨k, h, rfl, rfl, rfl⟩ | ⟨k, h, b, hr, rfl, rfl⟩
  · exact .nil
  · exact .one k h
  ·
    refine .op k h b s ?_
    obtain ⟨vs, fz, hg⟩ := hg
    have : b ≠ g := by
      rintro rfl
      rw [hr] at hg
      simp only [Option.some.injEq, Obj.cells.injEq] at hg
      exact ht hg.2.1.symm
    rw [Below.heap_setCell _ _ _ _ (by exact this)]; exact hr

theorem c_fld0 (x y : Nat) (w : World) : (Instr.field 130 (.agg #[.float .f64 x, .float .f64 y]) 0).run Tryz.prog w = .ok (.float .f64 x) w := by kernel_rfl
theorem c_fld1 (x y : Nat) (w : World) : (Instr.field 130 (.agg #[.float .f64 x, .float .f64 y]) 1).run Tryz.prog w = .ok (.float .f64 y) w := by kernel_rfl

set_option maxRecDepth 100000 in
set_option maxHeartbeats 4000000 in
theorem addF_any (A : Nat → Addr) (al ah bl bh d1 u1 d2 u2 : Nat) (p q : Int) (w : World) (hS : Sents A w) (h1 : Gives 89 #[.float .f64 al, .float .f64 bl] d1 u1) (h2 : Gives 89 #[.float .f64 ah, .float .f64 bh] d2 u2) (hp : FR d1 p) (hq : FR u2 q) :
    Calls Tryz.prog 44 #[.agg #[.float .f64 al, .float .f64 ah], .agg #[.float .f64 bl, .float .f64 bh]] w fun ev w' => OpR A w (boxP p q).1 (boxP p q).2.1 (boxP p q).2.2 (opS ⟨#[43]⟩ (boxP p q).2.2) ev w' := by
  have H1 : Hid (∀ w, Calls Tryz.prog 89 #[.float .f64 al, .float .f64 bl] w fun ev w' => ev = .returned (.agg #[.float .f64 d1, .float .f64 u1]) ∧ Below w.heap.size w w') := h1
  have H2 : Hid (∀ w, Calls Tryz.prog 89 #[.float .f64 ah, .float .f64 bh] w fun ev w' => ev = .returned (.agg #[.float .f64 d2, .float .f64 u2]) ∧ Below w.heap.size w w') := h2
  have HS : Hid (Sents A w) := hS
  have HI : Hid (∀ w, Sents A w → Calls Tryz.prog 88 #[.string ⟨#[43]⟩, .float .f64 d1, .float .f64 u2] w fun ev w' => OpR A w (boxP p q).1 (boxP p q).2.1 (boxP p q).2.2 (opS ⟨#[43]⟩ (boxP p q).2.2) ev w') := fun w hS => within_any A _ _ _ p q w hS hp hq
  generalize opS ⟨#[43]⟩ (boxP p q).2.2 = sr at *
  generalize boxP p q = r at *
  obtain ⟨r1, r2, r3⟩ := r
  simp only at HI ⊢
  have f0 := c_fld0
  have f1 := c_fld1
  clear h1 h2 hS hp hq
  go_enter Tryz.func44, Tryz.ntmps44
  go_wp2_with fail
  have B0 := blk_old (blk_old (blk_new w (Obj.cells #[.float .f64 al, .float .f64 ah] 67)) (Obj.cells #[.float .f64 bl, .float .f64 bh] 67)) (Obj.cells #[.float .f64 0, .float .f64 0] 67)
  have B1 := blk_old (blk_new (w.alloc (Obj.cells #[.float .f64 al, .float .f64 ah] 67)) (Obj.cells #[.float .f64 bl, .float .f64 bh] 67)) (Obj.cells #[.float .f64 0, .float .f64 0] 67)
  have B2 := blk_new ((w.alloc (Obj.cells #[.float .f64 al, .float .f64 ah] 67)).alloc (Obj.cells #[.float .f64 bl, .float .f64 bh] 67)) (Obj.cells #[.float .f64 0, .float .f64 0] 67)
  have hW : Below w.heap.size w (((w.alloc (Obj.cells #[.float .f64 al, .float .f64 ah] 67)).alloc (Obj.cells #[.float .f64 bl, .float .f64 bh] 67)).alloc (Obj.cells #[.float .f64 0, .float .f64 0] 67)) := (((Below.refl _ _).alloc (Nat.le_refl _) _).alloc (by simp) _).alloc (by simp; omega) _
  simp only [World.size_alloc] at B1 B2
  generalize (((w.alloc (Obj.cells #[.float .f64 al, .float .f64 ah] 67)).alloc (Obj.cells #[.float .f64 bl, .float .f64 bh] 67)).alloc (Obj.cells #[.float .f64 0, .float .f64 0] 67)) = W2 at *
  have HB0 : Hid (W2.drew.heap[w.heap.size]? = _) := B0
  have HB1 : Hid (W2.drew.heap[w.heap.size + 1]? = _) := B1
  have HB2 : Hid (W2.drew.heap[w.heap.size + 1 + 1]? = _) := B2
  have HW : Hid (Below w.heap.size w W2.drew) := hW.drew
  obtain ⟨a0, a1, -, -⟩ := blk2 B0
  obtain ⟨b0, b1, -, -⟩ := blk2 B1
  clear B0 B1 B2 hW
  go_region_held3 (fun W => W.cell? ⟨w.heap.size, 0, none⟩ = some (.float .f64 al) ∧ W.cell? ⟨w.heap.size, 1, none⟩ = some (.float .f64 ah) ∧ W.cell? ⟨w.heap.size + 1, 0, none⟩ = some (.float .f64 bl) ∧ W.cell? ⟨w.heap.size + 1, 1, none⟩ = some (.float .f64 bh)) (first | (go_keep; done) | (refine ⟨?_, ?_, ?_, ?_⟩ <;> first | (go_keep; done) | (rw [cell_set_ne (by omega), cell_set_ne (by omega)]; assumption) | assumption))
    (first
      | (go_at_call 89; with_reducible (refine Calls.mono (H1.out _) ?_); rintro e w3 ⟨rfl, hb3⟩
         have HB3 : Hid (Below _ _ w3) := hb3
         obtain ⟨a0, a1, -, -⟩ := blk2 (blk_below HB0.out hb3)
         obtain ⟨b0, b1, -, -⟩ := blk2 (blk_below HB1.out hb3)
         clear hb3)
      | (go_at_call 89; with_reducible (refine Calls.mono (H2.out _) ?_); rintro e w4 ⟨rfl, hb4⟩
         have HB4 : Hid (Below _ _ w4) := hb4
         obtain ⟨a0, a1, -, -⟩ := blk2 (blk_below (blk_below HB0.out HB3.out) hb4)
         obtain ⟨b0, b1, -, -⟩ := blk2 (blk_below (blk_below HB1.out HB3.out) hb4)
         clear hb4)
      | (go_at_call 88
         have HX : Hid (Below w.heap.size w w4) := (HW.out.trans (HB3.out.mono HW.out.size)).trans (HB4.out.mono (Nat.le_trans HW.out.size HB3.out.size))
         refine Calls.mono (HI.out _ (HS.out.below HX.out (Nat.le_refl _))) ?_
         rintro e w5 ⟨v, rfl, hE, hb5⟩
         have HE : Hid (ErrIs A w5 v _ _) := hE
         have HB5 : Hid (Below _ _ w5) := hb5
         obtain ⟨a0, a1, -, -⟩ := blk2 (blk_below (blk_below (blk_below HB0.out HB3.out) HB4.out) hb5)
         obtain ⟨b0, b1, -, -⟩ := blk2 (blk_below (blk_below (blk_below HB1.out HB3.out) HB4.out) hb5)
         obtain ⟨k0, k1, k2, k3⟩ := blk2 (blk_below (blk_below (blk_below HB2.out HB3.out) HB4.out) hb5)
         clear hE hb5))
  go_wp2_with fail
  have hBX : BoxT w5 (w.heap.size + 1 + 1) 67 := BoxT.of (blk_below (blk_below (blk_below HB2.out HB3.out) HB4.out) HB5.out)
  refine bodyPost_ret (v := .tuple #[.agg #[.float .f64 r1, .float .f64 r2], v]) (by simp [results, Tryz.results44, go_sem, k0, k1]) rfl ?_
  exact ⟨v, rfl, (HE.out.set hBX (by decide)).set hBX.set (by decide), ((HX.out.trans (HB5.out.mono HX.out.size)).setCell (by simp; omega) _).setCell (by simp; omega) _⟩

set_option maxRecDepth 100000 in
set_option maxHeartbeats 4000000 in
theorem diffsF_any (al ah bl bh d1 u1 d2 u2 : Nat) (w : World) (h1 : Gives 89 #[.float .f64 al, .float .f64 (negW bh)] d1 u1) (h2 : Gives 89 #[.float .f64 ah, .float .f64 (negW bl)] d2 u2) :
    Calls Tryz.prog 90 #[.agg #[.float .f64 al, .float .f64 ah], .agg #[.float .f64 bl, .float .f64 bh]] w fun ev w' => ev = .returned (.tuple #[.float .f64 d1, .float .f64 u2]) ∧ Below w.heap.size w w' := by
  have H1 : Hid (∀ w, Calls Tryz.prog 89 #[.float .f64 al, .float .f64 (negW bh)] w fun ev w' => ev = .returned (.agg #[.float .f64 d1, .float .f64 u1]) ∧ Below w.heap.size w w') := h1
  have H2 : Hid (∀ w, Calls Tryz.prog 89 #[.float .f64 ah, .float .f64 (negW bl)] w fun ev w' => ev = .returned (.agg #[.float .f64 d2, .float .f64 u2]) ∧ Below w.heap.size w w') := h2
  have n0 : ∀ w, (Op.unary .neg (.float .f64 bl)).run Tryz.prog w = .ok (.float .f64 (negW bl)) w := fun w => run_neg_float w _
  have n1 : ∀ w, (Op.unary .neg (.float .f64 bh)).run Tryz.prog w = .ok (.float .f64 (negW bh)) w := fun w => run_neg_float w _
  have f0 := c_fld0
  have f1 := c_fld1
  clear h1 h2
  generalize negW bl = nl at *
  generalize negW bh = nh at *
  go_enter Tryz.func90, Tryz.ntmps90
  go_wp2_with fail
  have B0 := blk_old (blk_new w (Obj.cells #[.float .f64 al, .float .f64 ah] 67)) (Obj.cells #[.float .f64 bl, .float .f64 bh] 67)
  have B1 := blk_new (w.alloc (Obj.cells #[.float .f64 al, .float .f64 ah] 67)) (Obj.cells #[.float .f64 bl, .float .f64 bh] 67)
  have hW : Below w.heap.size w ((w.alloc (Obj.cells #[.float .f64 al, .float .f64 ah] 67)).alloc (Obj.cells #[.float .f64 bl, .float .f64 bh] 67)) := ((Below.refl _ _).alloc (Nat.le_refl _) _).alloc (by simp) _
  simp only [World.size_alloc] at B1
  generalize ((w.alloc (Obj.cells #[.float .f64 al, .float .f64 ah] 67)).alloc (Obj.cells #[.float .f64 bl, .float .f64 bh] 67)) = W2 at *
  have HB0 : Hid (W2.drew.heap[w.heap.size]? = _) := B0
  have HB1 : Hid (W2.drew.heap[w.heap.size + 1]? = _) := B1
  have HW : Hid (Below w.heap.size w W2.drew) := hW.drew
  obtain ⟨a0, a1, -, -⟩ := blk2 B0
  obtain ⟨b0, b1, -, -⟩ := blk2 B1
  clear B0 B1 hW
  go_region_held3 (fun W => W.cell? ⟨w.heap.size, 0, none⟩ = some (.float .f64 al) ∧ W.cell? ⟨w.heap.size, 1, none⟩ = some (.float .f64 ah) ∧ W.cell? ⟨w.heap.size + 1, 0, none⟩ = some (.float .f64 bl) ∧ W.cell? ⟨w.heap.size + 1, 1, none⟩ = some (.float .f64 bh)) (first | (go_keep; done) | (refine ⟨?_, ?_, ?_, ?_⟩ <;> first | (go_keep; done) | (rw [cell_set_ne (by omega), cell_set_ne (by omega)]; assumption) | assumption))
    (first
      | (go_at_call 89; with_reducible (refine Calls.mono (H1.out _) ?_); rintro e w3 ⟨rfl, hb3⟩
         have HB3 : Hid (Below _ _ w3) := hb3
         obtain ⟨a0, a1, -, -⟩ := blk2 (blk_below HB0.out hb3)
         obtain ⟨b0, b1, -, -⟩ := blk2 (blk_below HB1.out hb3)
         clear hb3)
      | (go_at_call 89; with_reducible (refine Calls.mono (H2.out _) ?_); rintro e w4 ⟨rfl, hb4⟩
         have HB4 : Hid (Below _ _ w4) := hb4
         obtain ⟨a0, a1, -, -⟩ := blk2 (blk_below (blk_below HB0.out HB3.out) hb4)
         obtain ⟨b0, b1, -, -⟩ := blk2 (blk_below (blk_below HB1.out HB3.out) hb4)
         clear hb4))
  have hX : Below w.heap.size w w4 := (HW.out.trans (HB3.out.mono HW.out.size)).trans (HB4.out.mono (Nat.le_trans HW.out.size HB3.out.size))
  go_wp2_with fail
  refine bodyPost_ret (v := .tuple #[.float .f64 d1, .float .f64 u2]) (by simp [results, Tryz.results90, go_sem]) rfl ?_
  exact ⟨rfl, hX⟩

set_option maxRecDepth 100000 in
set_option maxHeartbeats 4000000 in
theorem subF_any (A : Nat → Addr) (al ah bl bh d1 u1 d2 u2 : Nat) (p q : Int) (w : World) (hS : Sents A w) (h1 : Gives 89 #[.float .f64 al, .float .f64 (negW bh)] d1 u1) (h2 : Gives 89 #[.float .f64 ah, .float .f64 (negW bl)] d2 u2) (hp : FR d1 p) (hq : FR u2 q) :
    Calls Tryz.prog 45 #[.agg #[.float .f64 al, .float .f64 ah], .agg #[.float .f64 bl, .float .f64 bh]] w fun ev w' => OpR A w (boxP p q).1 (boxP p q).2.1 (boxP p q).2.2 (opS ⟨#[45]⟩ (boxP p q).2.2) ev w' := by
  have HD : Hid (∀ w, Calls Tryz.prog 90 #[.agg #[.float .f64 al, .float .f64 ah], .agg #[.float .f64 bl, .float .f64 bh]] w fun ev w' => ev = .returned (.tuple #[.float .f64 d1, .float .f64 u2]) ∧ Below w.heap.size w w') := fun w => diffsF_any al ah bl bh d1 u1 d2 u2 w h1 h2
  have HS : Hid (Sents A w) := hS
  have HI : Hid (∀ w, Sents A w → Calls Tryz.prog 88 #[.string ⟨#[45]⟩, .float .f64 d1, .float .f64 u2] w fun ev w' => OpR A w (boxP p q).1 (boxP p q).2.1 (boxP p q).2.2 (opS ⟨#[45]⟩ (boxP p q).2.2) ev w') := fun w hS => within_any A _ _ _ p q w hS hp hq
  generalize opS ⟨#[45]⟩ (boxP p q).2.2 = sr at *
  generalize boxP p q = r at *
  obtain ⟨r1, r2, r3⟩ := r
  simp only at HI ⊢
  clear h1 h2 hS hp hq
  go_enter Tryz.func45, Tryz.ntmps45
  go_wp2_with fail
  have B2 := blk_new ((w.alloc (Obj.cells #[.float .f64 al, .float .f64 ah] 67)).alloc (Obj.cells #[.float .f64 bl, .float .f64 bh] 67)) (Obj.cells #[.float .f64 0, .float .f64 0] 67)
  have hW : Below w.heap.size w (((w.alloc (Obj.cells #[.float .f64 al, .float .f64 ah] 67)).alloc (Obj.cells #[.float .f64 bl, .float .f64 bh] 67)).alloc (Obj.cells #[.float .f64 0, .float .f64 0] 67)) := (((Below.refl _ _).alloc (Nat.le_refl _) _).alloc (by simp) _).alloc (by simp; omega) _
  simp only [World.size_alloc] at B2
  generalize (((w.alloc (Obj.cells #[.float .f64 al, .float .f64 ah] 67)).alloc (Obj.cells #[.float .f64 bl, .float .f64 bh] 67)).alloc (Obj.cells #[.float .f64 0, .float .f64 0] 67)) = W2 at *
  refine Calls.mono (HD.out _) ?_
  rintro e w8 ⟨rfl, hb8⟩
  have hW8 : Below w.heap.size w w8 := hW.trans (hb8.mono hW.size)
  have B28 : w8.heap[w.heap.size + 1 + 1]? = _ := blk_below B2 hb8
  clear hW B2 hb8 HD
  go_wp2_with fail
  refine Calls.mono (HI.out _ (HS.out.below hW8 (Nat.le_refl _))) ?_
  rintro e w9 ⟨v, rfl, hE, hb9⟩
  have HE : Hid (ErrIs A w9 v _ _) := hE
  have HB9 : Hid (Below w.heap.size w w9) := hW8.trans (hb9.mono hW8.size)
  have HK9 : Hid (w9.heap[w.heap.size + 1 + 1]? = _) := blk_below B28 hb9
  obtain ⟨k0, k1, k2, k3⟩ := blk2 HK9.out
  clear hE hb9 hW8 B28 HI HS
  go_wp2_with fail
  have hBX : BoxT w9 (w.heap.size + 1 + 1) 67 := BoxT.of HK9.out
  refine bodyPost_ret (v := .tuple #[.agg #[.float .f64 r1, .float .f64 r2], v]) (by simp [results, Tryz.results45, go_sem, k0, k1]) rfl ?_
  exact ⟨v, rfl, (HE.out.set hBX (by decide)).set hBX.set (by decide), (HB9.out.setCell (by simp; omega) _).setCell (by simp; omega) _⟩
end Go.Proofs.YtonhpkigoplmaaaGreatDoor
namespace Go.Proofs.YtonhpkigoplmaaaGreatDoor
open Go.RowKit Go.Extern Ieee
attribute [local go_sem] run_store_float

theorem heap_new2 (w : World) (x y : Nat) (s : ByteArray) (a : Addr) : (((w.alloc (Obj.cells #[.float .f64 x, .float .f64 y] 67)).alloc (Obj.cells #[.float .f64 0, .float .f64 0] 67)).alloc (Obj.cells #[.string s, .iface 229 (.pointer (some a))] 138)).drew.heap[w.heap.size + 1 + 1]? = some (.cells #[.string s, .iface 229 (.pointer (some a))] 138 (0, 0)) := by
  have := blk_new ((w.alloc (Obj.cells #[.float .f64 x, .float .f64 y] 67)).alloc (Obj.cells #[.float .f64 0, .float .f64 0] 67)) (Obj.cells #[.string s, .iface 229 (.pointer (some a))] 138)
  simp only [World.size_alloc] at this
  exact this

/-- The root of what is below 0. -/
theorem sqrtF_neg (A : Nat → Addr) (al ah : Nat) (w : World) (hS : Sents A w) (h : FloatKind.f64.format.order al 0 = some .lt) :
    Calls Tryz.prog 48 #[.agg #[.float .f64 al, .float .f64 ah]] w fun ev w' => OpR A w 0 0 5 ⟨#[115, 113, 114, 116]⟩ ev w' := by
  have c2 : w.cell? ⟨2, 0, none⟩ = some (.iface 229 (.pointer (some (A 4)))) := hS.cell 4 (by omega)
  have hl2 := lt_of_cell c2
  clear hS
  go_enter Tryz.func48, Tryz.ntmps48
  go_wp2_with fail
  go_region
  go_wp2_with fail
  refine bodyPost_ret (v := .tuple #[.agg #[.float .f64 0, .float .f64 0], .iface 136 (.pointer (some ⟨w.heap.size + 1 + 1, 0, none⟩))]) (by simp [results, Tryz.results48, go_sem]) rfl ?_
  exact ⟨_, rfl, .op 4 (by omega) _ _ (heap_new2 w al ah _ (A 4)), ((((Below.refl _ _).alloc (Nat.le_refl _) _).alloc (by simp) _).alloc (by simp; omega) _).drew⟩

set_option maxRecDepth 100000 in
set_option maxHeartbeats 4000000 in
theorem sqrtF_any2 (A : Nat → Addr) (al ah d1 u1 d2 u2 : Nat) (o : Ordering) (p q : Int) (w : World) (hS : Sents A w) (ho : FloatKind.f64.format.order al 0 = some o) (hno : o ≠ .lt) (h1 : Gives 95 #[.float .f64 al] d1 u1) (h2 : Gives 95 #[.float .f64 ah] d2 u2) (hp : FR d1 p) (hq : FR u2 q) :
    Calls Tryz.prog 48 #[.agg #[.float .f64 al, .float .f64 ah]] w fun ev w' => OpR A w (boxP p q).1 (boxP p q).2.1 (boxP p q).2.2 (opS ⟨#[115, 113, 114, 116]⟩ (boxP p q).2.2) ev w' := by
  have H1 : Hid (∀ w, Calls Tryz.prog 95 #[.float .f64 al] w fun ev w' => ev = .returned (.agg #[.float .f64 d1, .float .f64 u1]) ∧ Below w.heap.size w w') := h1
  have H2 : Hid (∀ w, Calls Tryz.prog 95 #[.float .f64 ah] w fun ev w' => ev = .returned (.agg #[.float .f64 d2, .float .f64 u2]) ∧ Below w.heap.size w w') := h2
  have HS : Hid (Sents A w) := hS
  have HI : Hid (∀ w, Sents A w → Calls Tryz.prog 88 #[.string ⟨#[115, 113, 114, 116]⟩, .float .f64 d1, .float .f64 u2] w fun ev w' => OpR A w (boxP p q).1 (boxP p q).2.1 (boxP p q).2.2 (opS ⟨#[115, 113, 114, 116]⟩ (boxP p q).2.2) ev w') := fun w hS => within_any A _ _ _ p q w hS hp hq
  generalize opS ⟨#[115, 113, 114, 116]⟩ (boxP p q).2.2 = sr at *
  generalize boxP p q = r at *
  obtain ⟨r1, r2, r3⟩ := r
  simp only at HI ⊢
  have hlt : (FloatKind.f64.format.order al 0 == some Ordering.lt) = false := by rw [ho]; cases o <;> first | rfl | exact absurd rfl hno
  have f0 := c_fld0
  have f1 := c_fld1
  clear h1 h2 hS hp hq ho hno
  go_enter Tryz.func48, Tryz.ntmps48
  go_wp2_with fail
  have B0 := blk_old (blk_new w (Obj.cells #[.float .f64 al, .float .f64 ah] 67)) (Obj.cells #[.float .f64 0, .float .f64 0] 67)
  have B2 := blk_new (w.alloc (Obj.cells #[.float .f64 al, .float .f64 ah] 67)) (Obj.cells #[.float .f64 0, .float .f64 0] 67)
  have hW : Below w.heap.size w ((w.alloc (Obj.cells #[.float .f64 al, .float .f64 ah] 67)).alloc (Obj.cells #[.float .f64 0, .float .f64 0] 67)) := ((Below.refl _ _).alloc (Nat.le_refl _) _).alloc (by simp) _
  simp only [World.size_alloc] at B2
  generalize ((w.alloc (Obj.cells #[.float .f64 al, .float .f64 ah] 67)).alloc (Obj.cells #[.float .f64 0, .float .f64 0] 67)) = W2 at *
  have HB0 : Hid (W2.drew.heap[w.heap.size]? = _) := B0
  have HB2 : Hid (W2.drew.heap[w.heap.size + 1]? = _) := B2
  have HW : Hid (Below w.heap.size w W2.drew) := hW.drew
  obtain ⟨a0, a1, -, -⟩ := blk2 B0
  clear B0 B2 hW
  go_region_held3 (fun W => W.cell? ⟨w.heap.size, 0, none⟩ = some (.float .f64 al) ∧ W.cell? ⟨w.heap.size, 1, none⟩ = some (.float .f64 ah)) (first | (go_keep; done) | (refine ⟨?_, ?_⟩ <;> first | (go_keep; done) | (rw [cell_set_ne (by omega), cell_set_ne (by omega)]; assumption) | assumption))
    (first
      | (go_at_call 95; with_reducible (refine Calls.mono (H1.out _) ?_); rintro e w3 ⟨rfl, hb3⟩
         have HB3 : Hid (Below _ _ w3) := hb3
         obtain ⟨a0, a1, -, -⟩ := blk2 (blk_below HB0.out hb3)
         clear hb3)
      | (go_at_call 95; with_reducible (refine Calls.mono (H2.out _) ?_); rintro e w4 ⟨rfl, hb4⟩
         have HB4 : Hid (Below _ _ w4) := hb4
         obtain ⟨a0, a1, -, -⟩ := blk2 (blk_below (blk_below HB0.out HB3.out) hb4)
         clear hb4)
      | (go_at_call 88
         have HX : Hid (Below w.heap.size w w4) := (HW.out.trans (HB3.out.mono HW.out.size)).trans (HB4.out.mono (Nat.le_trans HW.out.size HB3.out.size))
         refine Calls.mono (HI.out _ (HS.out.below HX.out (Nat.le_refl _))) ?_
         rintro e w5 ⟨v, rfl, hE, hb5⟩
         have HE : Hid (ErrIs A w5 v _ _) := hE
         have HB5 : Hid (Below _ _ w5) := hb5
         obtain ⟨a0, a1, -, -⟩ := blk2 (blk_below (blk_below (blk_below HB0.out HB3.out) HB4.out) hb5)
         obtain ⟨k0, k1, k2, k3⟩ := blk2 (blk_below (blk_below (blk_below HB2.out HB3.out) HB4.out) hb5)
         clear hE hb5))
  go_wp2_with fail
  have hBX : BoxT w5 (w.heap.size + 1) 67 := BoxT.of (blk_below (blk_below (blk_below HB2.out HB3.out) HB4.out) HB5.out)
  refine bodyPost_ret (v := .tuple #[.agg #[.float .f64 r1, .float .f64 r2], v]) (by simp [results, Tryz.results48, go_sem, k0, k1]) rfl ?_
  exact ⟨v, rfl, (HE.out.set hBX (by decide)).set hBX.set (by decide), ((HX.out.trans (HB5.out.mono HX.out.size)).setCell (by simp) _).setCell (by simp) _⟩

theorem hullF_any (al ah bl bh : Nat) (p1 p2 p3 p4 : Int) (w : World) (h1 : FR al p1) (h2 : FR ah p2) (h3 : FR bl p3) (h4 : FR bh p4) :
    Calls Tryz.prog 42 #[.agg #[.float .f64 al, .float .f64 ah], .agg #[.float .f64 bl, .float .f64 bh]] w fun ev w' => ev = .returned (.agg #[.float .f64 (fmin al bl), .float .f64 (fmax ah bh)]) ∧ Below w.heap.size w w' := by
  have m1 : ∀ (w : World) (ts : Array TypeId) (t : TypeId), (Builtin.min_ ts t #[.float .f64 al, .float .f64 bl]).run Tryz.prog w = .ok (.float .f64 (fmin al bl)) w := fun w ts t => run_min_float w ts t h1 h3
  have m2 : ∀ (w : World) (ts : Array TypeId) (t : TypeId), (Builtin.max_ ts t #[.float .f64 ah, .float .f64 bh]).run Tryz.prog w = .ok (.float .f64 (fmax ah bh)) w := fun w ts t => run_max_float w ts t h2 h4
  generalize fmin al bl = lo at *
  generalize fmax ah bh = hi at *
  clear h1 h2 h3 h4
  go_enter Tryz.func42, Tryz.ntmps42
  go_wp2
  refine bodyPost_ret (v := .agg #[.float .f64 lo, .float .f64 hi]) (by simp [results, Tryz.results42, go_sem]) rfl ?_
  exact ⟨rfl, (((Below.refl _ _).alloc (Nat.le_refl _) _).alloc (by simp) _).alloc (by simp; omega) _⟩
end Go.Proofs.YtonhpkigoplmaaaGreatDoor
