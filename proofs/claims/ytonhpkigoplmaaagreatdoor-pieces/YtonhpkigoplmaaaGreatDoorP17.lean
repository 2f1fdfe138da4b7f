/-
  RefZ, OpC, EnclM, MidM.
-/
import Derived.Test.YtonhpkigoplmaaaGreatDoorP13
import Derived.Deep.DeepCutAuto
import Derived.Test.YtonhpkigoplmaaaGreatDoorP14
import Derived.Test.YtonhpkigoplmaaaGreatDoorP15
import Derived.Test.YtonhpkigoplmaaaGreatDoorP16
import Derived.Test.YtonhpkigoplmaaaGreatDoorP06
namespace Go.Proofs.YtonhpkigoplmaaaGreatDoor
open Go.RowKit

set_option maxHeartbeats 20000000 in
set_option maxRecDepth 100000 in
theorem divided_any (va vb : Value) (a1 a2 b1 b2 q0 q1 q2 q3 : Bool × Nat × Int) (w : World) (ha : IvV w va a1 a2) (hb : IvV w vb b1 b2) (hz : holdsT b1 b2 = false)
    (hq0 : ∀ u v w', NumV w' u a1.1 a1.2.1 a1.2.2 → NumV w' v b1.1 b1.2.1 b1.2.2 → Calls Tryz.prog 122 #[u, v] w' fun ev w'' => ∃ x, ev = .returned x ∧ NumV w'' x q0.1 q0.2.1 q0.2.2 ∧ Below w'.heap.size w' w'')
    (hq1 : ∀ u v w', NumV w' u a1.1 a1.2.1 a1.2.2 → NumV w' v b2.1 b2.2.1 b2.2.2 → Calls Tryz.prog 122 #[u, v] w' fun ev w'' => ∃ x, ev = .returned x ∧ NumV w'' x q1.1 q1.2.1 q1.2.2 ∧ Below w'.heap.size w' w'')
    (hq2 : ∀ u v w', NumV w' u a2.1 a2.2.1 a2.2.2 → NumV w' v b1.1 b1.2.1 b1.2.2 → Calls Tryz.prog 122 #[u, v] w' fun ev w'' => ∃ x, ev = .returned x ∧ NumV w'' x q2.1 q2.2.1 q2.2.2 ∧ Below w'.heap.size w' w'')
    (hq3 : ∀ u v w', NumV w' u a2.1 a2.2.1 a2.2.2 → NumV w' v b2.1 b2.2.1 b2.2.2 → Calls Tryz.prog 122 #[u, v] w' fun ev w'' => ∃ x, ev = .returned x ∧ NumV w'' x q3.1 q3.2.1 q3.2.2 ∧ Below w'.heap.size w' w'')
    (s0 : Small q0 ∧ (digits q0.2.1).length ≤ 400000) (s1 : Small q1 ∧ (digits q1.2.1).length ≤ 400000) (s2 : Small q2 ∧ (digits q2.2.1).length ≤ 400000) (s3 : Small q3 ∧ (digits q3.2.1).length ≤ 400000) (r : Nat × Nat × Nat) (hr : r = aroundN (pick4 q0 q1 q2 q3 (ixLo (pick4 q0 q1 q2 q3) 3)) (pick4 q0 q1 q2 q3 (ixHi (pick4 q0 q1 q2 q3) 3))) :
    Calls Tryz.prog 68 #[va, vb] w fun e w' => e = .returned (.tuple #[.agg #[.int .u64 ((nameT r ⟨#[47]⟩).1 : Int), .int .u64 ((nameT r ⟨#[47]⟩).2.1 : Int)], .int .i64 ((nameT r ⟨#[47]⟩).2.2.1 : Int), .string (nameT r ⟨#[47]⟩).2.2.2]) ∧ Below w.heap.size w w' := by
  obtain ⟨ao, la, ca, bo, lb, cb, rfl, hla, hlb, hna, hnb⟩ := ha
  obtain ⟨co, lc, cc, do_, ld, cd, rfl, hlc, hld, hnc, hnd⟩ := hb
  have HH : Hid (∀ w', Below w.heap.size w w' → Calls Tryz.prog 121 #[.agg #[.bool b1.1, .slice co lc cc, .int .i64 b1.2.2, .bool b2.1, .slice do_ ld cd, .int .i64 b2.2.2]] w' fun e w'' => e = .returned (.bool false) ∧ Below w'.heap.size w' w'') := by
    intro w' hb'
    have := holds0_any _ b1 b2 w' ⟨_, _, _, _, _, _, rfl, hlc, hld, hnc.below hb' (Nat.le_refl _), hnd.below hb' (Nat.le_refl _)⟩
    rwa [hz] at this
  have NA : ∀ w', Below w.heap.size w w' → NumV w' (.agg #[.bool a1.1, .slice ao la ca, .int .i64 a1.2.2]) a1.1 a1.2.1 a1.2.2 ∧ NumV w' (.agg #[.bool a2.1, .slice bo lb cb, .int .i64 a2.2.2]) a2.1 a2.2.1 a2.2.2 ∧ NumV w' (.agg #[.bool b1.1, .slice co lc cc, .int .i64 b1.2.2]) b1.1 b1.2.1 b1.2.2 ∧ NumV w' (.agg #[.bool b2.1, .slice do_ ld cd, .int .i64 b2.2.2]) b2.1 b2.2.1 b2.2.2 := fun w' hb => ⟨⟨_, _, _, rfl, hla, hna.below hb (Nat.le_refl _)⟩, ⟨_, _, _, rfl, hlb, hnb.below hb (Nat.le_refl _)⟩, ⟨_, _, _, rfl, hlc, hnc.below hb (Nat.le_refl _)⟩, ⟨_, _, _, rfl, hld, hnd.below hb (Nat.le_refl _)⟩⟩
  have Q0 : Hid (∀ w', Below w.heap.size w w' → Calls Tryz.prog 122 #[.agg #[.bool a1.1, .slice ao la ca, .int .i64 a1.2.2], .agg #[.bool b1.1, .slice co lc cc, .int .i64 b1.2.2]] w' fun ev w'' => ∃ vo vl vc, ev = .returned (.agg #[.bool q0.1, .slice vo vl vc, .int .i64 q0.2.2]) ∧ vl = (digits q0.2.1).length ∧ NatV w'' (.slice vo vl vc) q0.2.1 ∧ Below w'.heap.size w' w'') := fun w' hb => (hq0 _ _ w' (NA w' hb).1 (NA w' hb).2.2.1).mono (fun ev w'' h => by obtain ⟨x, h1, ⟨vo, vl, vc, rfl, h2, h3⟩, h4⟩ := h; exact ⟨vo, vl, vc, h1, h2, h3, h4⟩)
  have Q1 : Hid (∀ w', Below w.heap.size w w' → Calls Tryz.prog 122 #[.agg #[.bool a1.1, .slice ao la ca, .int .i64 a1.2.2], .agg #[.bool b2.1, .slice do_ ld cd, .int .i64 b2.2.2]] w' fun ev w'' => ∃ vo vl vc, ev = .returned (.agg #[.bool q1.1, .slice vo vl vc, .int .i64 q1.2.2]) ∧ vl = (digits q1.2.1).length ∧ NatV w'' (.slice vo vl vc) q1.2.1 ∧ Below w'.heap.size w' w'') := fun w' hb => (hq1 _ _ w' (NA w' hb).1 (NA w' hb).2.2.2).mono (fun ev w'' h => by obtain ⟨x, h1, ⟨vo, vl, vc, rfl, h2, h3⟩, h4⟩ := h; exact ⟨vo, vl, vc, h1, h2, h3, h4⟩)
  have Q2 : Hid (∀ w', Below w.heap.size w w' → Calls Tryz.prog 122 #[.agg #[.bool a2.1, .slice bo lb cb, .int .i64 a2.2.2], .agg #[.bool b1.1, .slice co lc cc, .int .i64 b1.2.2]] w' fun ev w'' => ∃ vo vl vc, ev = .returned (.agg #[.bool q2.1, .slice vo vl vc, .int .i64 q2.2.2]) ∧ vl = (digits q2.2.1).length ∧ NatV w'' (.slice vo vl vc) q2.2.1 ∧ Below w'.heap.size w' w'') := fun w' hb => (hq2 _ _ w' (NA w' hb).2.1 (NA w' hb).2.2.1).mono (fun ev w'' h => by obtain ⟨x, h1, ⟨vo, vl, vc, rfl, h2, h3⟩, h4⟩ := h; exact ⟨vo, vl, vc, h1, h2, h3, h4⟩)
  have Q3 : Hid (∀ w', Below w.heap.size w w' → Calls Tryz.prog 122 #[.agg #[.bool a2.1, .slice bo lb cb, .int .i64 a2.2.2], .agg #[.bool b2.1, .slice do_ ld cd, .int .i64 b2.2.2]] w' fun ev w'' => ∃ vo vl vc, ev = .returned (.agg #[.bool q3.1, .slice vo vl vc, .int .i64 q3.2.2]) ∧ vl = (digits q3.2.1).length ∧ NatV w'' (.slice vo vl vc) q3.2.1 ∧ Below w'.heap.size w' w'') := fun w' hb => (hq3 _ _ w' (NA w' hb).2.1 (NA w' hb).2.2.2).mono (fun ev w'' h => by obtain ⟨x, h1, ⟨vo, vl, vc, rfl, h2, h3⟩, h4⟩ := h; exact ⟨vo, vl, vc, h1, h2, h3, h4⟩)
  have HSP : Hid (∀ (g : Nat) (W : World) (o0 o1 o2 o3 : Option Addr) (l0 l1 l2 l3 c0 c1 c2 c3 : Nat), W.heap[g]? = some (.cells #[.bool q0.1, .slice o0 l0 c0, .int .i64 q0.2.2, .bool q1.1, .slice o1 l1 c1, .int .i64 q1.2.2, .bool q2.1, .slice o2 l2 c2, .int .i64 q2.2.2, .bool q3.1, .slice o3 l3 c3, .int .i64 q3.2.2] 92 (0, 0)) → l0 = (digits q0.2.1).length → l1 = (digits q1.2.1).length → l2 = (digits q2.2.1).length → l3 = (digits q3.2.1).length → NatV W (.slice o0 l0 c0) q0.2.1 → NatV W (.slice o1 l1 c1) q1.2.1 → NatV W (.slice o2 l2 c2) q2.2.1 → NatV W (.slice o3 l3 c3) q3.2.1 → Calls Tryz.prog 63 #[.slice (some ⟨g, 0, none⟩) 4 4] W fun ev w' => ev = .returned (.tuple #[.agg #[.int .u64 (r.1 : Int), .int .u64 (r.2.1 : Int)], .int .i64 (r.2.2 : Int)]) ∧ Below W.heap.size W w') := by
    intro g W o0 o1 o2 o3 l0 l1 l2 l3 c0 c1 c2 c3 hg e0 e1 e2 e3 n0 n1 n2 n3
    rw [hr]
    exact span_any g _ _ _ _ W (four_of hg e0 e1 e2 e3 n0 n1 n2 n3 s0 s1 s2 s3)
  clear NA hz hq0 hq1 hq2 hq3 s0 s1 s2 s3 hr hla hlb hlc hld hna hnb hnc hnd
  obtain ⟨r1, r2, r3⟩ := r
  have HNM : Hid (∀ w, Calls Tryz.prog 66 #[.agg #[.int .u64 (r1 : Int), .int .u64 (r2 : Int)], .int .i64 (r3 : Int), .string ⟨#[47]⟩] w fun e w' => e = .returned (.tuple #[.agg #[.int .u64 ((nameT (r1, r2, r3) ⟨#[47]⟩).1 : Int), .int .u64 ((nameT (r1, r2, r3) ⟨#[47]⟩).2.1 : Int)], .int .i64 ((nameT (r1, r2, r3) ⟨#[47]⟩).2.2.1 : Int), .string (nameT (r1, r2, r3) ⟨#[47]⟩).2.2.2]) ∧ Below w.heap.size w w') := fun w => named_any r1 r2 r3 ⟨#[47]⟩ w
  simp only at HSP
  go_enter Tryz.func68, Tryz.ntmps68
  go_wp2_with fail
  have m0 : Hid (DSt w (((w.alloc (Obj.cells #[.bool a1.1, .slice ao la ca, .int .i64 a1.2.2, .bool a2.1, .slice bo lb cb, .int .i64 a2.2.2] 98)).alloc (Obj.cells #[.bool b1.1, .slice co lc cc, .int .i64 b1.2.2, .bool b2.1, .slice do_ ld cd, .int .i64 b2.2.2] 98)).alloc (Obj.cells #[.int .u64 0, .int .u64 0] 28)) (w.heap.size + 1 + 1) w.heap.size (w.heap.size + 1) (w.heap.size + 1 + 1 + 1) #[.bool a1.1, .slice ao la ca, .int .i64 a1.2.2, .bool a2.1, .slice bo lb cb, .int .i64 a2.2.2] #[.bool b1.1, .slice co lc cc, .int .i64 b1.2.2, .bool b2.1, .slice do_ ld cd, .int .i64 b2.2.2]) := by
    have B0 := blk_old (blk_old (blk_new w (Obj.cells #[.bool a1.1, .slice ao la ca, .int .i64 a1.2.2, .bool a2.1, .slice bo lb cb, .int .i64 a2.2.2] 98)) (Obj.cells #[.bool b1.1, .slice co lc cc, .int .i64 b1.2.2, .bool b2.1, .slice do_ ld cd, .int .i64 b2.2.2] 98)) (Obj.cells #[.int .u64 0, .int .u64 0] 28)
    have B1 := blk_old (blk_new (w.alloc (Obj.cells #[.bool a1.1, .slice ao la ca, .int .i64 a1.2.2, .bool a2.1, .slice bo lb cb, .int .i64 a2.2.2] 98)) (Obj.cells #[.bool b1.1, .slice co lc cc, .int .i64 b1.2.2, .bool b2.1, .slice do_ ld cd, .int .i64 b2.2.2] 98)) (Obj.cells #[.int .u64 0, .int .u64 0] 28)
    have B2 := blk_new ((w.alloc (Obj.cells #[.bool a1.1, .slice ao la ca, .int .i64 a1.2.2, .bool a2.1, .slice bo lb cb, .int .i64 a2.2.2] 98)).alloc (Obj.cells #[.bool b1.1, .slice co lc cc, .int .i64 b1.2.2, .bool b2.1, .slice do_ ld cd, .int .i64 b2.2.2] 98)) (Obj.cells #[.int .u64 0, .int .u64 0] 28)
    simp only [World.size_alloc] at B1 B2
    exact ⟨B0, B1, B2, (((Below.refl _ _).alloc (Nat.le_refl _) _).alloc (by simp) _).alloc (by simp; omega) _, by omega, by omega, by omega, by simp, by omega⟩
  generalize (((w.alloc (Obj.cells #[.bool a1.1, .slice ao la ca, .int .i64 a1.2.2, .bool a2.1, .slice bo lb cb, .int .i64 a2.2.2] 98)).alloc (Obj.cells #[.bool b1.1, .slice co lc cc, .int .i64 b1.2.2, .bool b2.1, .slice do_ ld cd, .int .i64 b2.2.2] 98)).alloc (Obj.cells #[.int .u64 0, .int .u64 0] 28)) = W2 at *
  refine Calls.mono (HH.out _ m0.out.hb) ?_
  rintro ev w1 ⟨rfl, hb1⟩
  have m1 : Hid (DSt w w1 (w.heap.size + 1 + 1) w.heap.size (w.heap.size + 1) (w.heap.size + 1 + 1 + 1) #[.bool a1.1, .slice ao la ca, .int .i64 a1.2.2, .bool a2.1, .slice bo lb cb, .int .i64 a2.2.2] #[.bool b1.1, .slice co lc cc, .int .i64 b1.2.2, .bool b2.1, .slice do_ ld cd, .int .i64 b2.2.2]) := m0.out.below hb1
  clear hb1 m0 HH
  go_wp2_with fail
  go_cut [8, 9] (fun s8 s9 wc => ∃ g, s8 = .pointer (some ⟨g, 0, none⟩) ∧ s9 = .int .i64 (r3 : Int) ∧ Fin w wc (w.heap.size + 1 + 1) g (.int .u64 (r1 : Int)) (.int .u64 (r2 : Int)))
  case first =>
    have iN : Hid (DSt w w1.drew (w.heap.size + 1 + 1) w.heap.size (w.heap.size + 1) (w.heap.size + 1 + 1 + 1) #[.bool a1.1, .slice ao la ca, .int .i64 a1.2.2, .bool a2.1, .slice bo lb cb, .int .i64 a2.2.2] #[.bool b1.1, .slice co lc cc, .int .i64 b1.2.2, .bool b2.1, .slice do_ ld cd, .int .i64 b2.2.2]) := m1.out.drew
    go_region_held3 (fun W => W.cell? ⟨w.heap.size, 0, none⟩ = some (.bool a1.1) ∧ W.cell? ⟨w.heap.size, 1, none⟩ = some (.slice ao la ca) ∧ W.cell? ⟨w.heap.size, 2, none⟩ = some (.int .i64 a1.2.2) ∧ W.cell? ⟨w.heap.size, 3, none⟩ = some (.bool a2.1) ∧ W.cell? ⟨w.heap.size, 4, none⟩ = some (.slice bo lb cb) ∧ W.cell? ⟨w.heap.size, 5, none⟩ = some (.int .i64 a2.2.2) ∧ W.cell? ⟨w.heap.size + 1, 0, none⟩ = some (.bool b1.1) ∧ W.cell? ⟨w.heap.size + 1, 1, none⟩ = some (.slice co lc cc) ∧ W.cell? ⟨w.heap.size + 1, 2, none⟩ = some (.int .i64 b1.2.2) ∧ W.cell? ⟨w.heap.size + 1, 3, none⟩ = some (.bool b2.1) ∧ W.cell? ⟨w.heap.size + 1, 4, none⟩ = some (.slice do_ ld cd) ∧ W.cell? ⟨w.heap.size + 1, 5, none⟩ = some (.int .i64 b2.2.2)) (first | with_reducible exact iN.out.cells | with_reducible exact (m1.out.alloc _).drew.cells | with_reducible exact (iN.out.alloc _).cells | with_reducible exact ((iN.out.alloc _).alloc _).cells | with_reducible exact (iN.out.set2 zf.out _ _).cells)
      (first
        | (go_at_call 122; with_reducible (refine Calls.mono (Q0.out _ ?_) ?_); (with_reducible exact iN.out.hb); rintro e v0 ⟨o0, l0, c0, rfl, hl, hn, hbk⟩
           have E0 : Hid (l0 = _) := hl
           have N0 : Hid (NatV v0 (.slice o0 l0 c0) _) := hn
           have iN : Hid (DSt w v0 (w.heap.size + 1 + 1) w.heap.size (w.heap.size + 1) (w.heap.size + 1 + 1 + 1) #[.bool a1.1, .slice ao la ca, .int .i64 a1.2.2, .bool a2.1, .slice bo lb cb, .int .i64 a2.2.2] #[.bool b1.1, .slice co lc cc, .int .i64 b1.2.2, .bool b2.1, .slice do_ ld cd, .int .i64 b2.2.2]) := iN.out.below hbk
           clear hl hn hbk)
        | (go_at_call 122; with_reducible (refine Calls.mono (Q0.out _ ?_) ?_); (with_reducible exact (m1.out.alloc _).drew.hb); rintro e v0 ⟨o0, l0, c0, rfl, hl, hn, hbk⟩
           have E0 : Hid (l0 = _) := hl
           have N0 : Hid (NatV v0 (.slice o0 l0 c0) _) := hn
           have zf : Hid (Box0 (w.heap.size + 1 + 1 + 1) v0 _) := (Box0.new m1.out.sz).drew.below hbk
           have iN : Hid (DSt w v0 (w.heap.size + 1 + 1) w.heap.size (w.heap.size + 1) (w.heap.size + 1 + 1 + 1) #[.bool a1.1, .slice ao la ca, .int .i64 a1.2.2, .bool a2.1, .slice bo lb cb, .int .i64 a2.2.2] #[.bool b1.1, .slice co lc cc, .int .i64 b1.2.2, .bool b2.1, .slice do_ ld cd, .int .i64 b2.2.2]) := (m1.out.alloc _).drew.below hbk
           clear hl hn hbk)
        | (go_at_call 122; with_reducible (refine Calls.mono (Q1.out _ ?_) ?_); (with_reducible exact iN.out.hb); rintro e v1 ⟨o1, l1, c1, rfl, hl, hn, hbk⟩
           have E1 : Hid (l1 = _) := hl
           have N1 : Hid (NatV v1 (.slice o1 l1 c1) _) := hn
           have N0 : Hid (NatV v1 (.slice o0 l0 c0) _) := N0.out.below hbk (Nat.le_refl _)
           try (have zf : Hid (Box0 (w.heap.size + 1 + 1 + 1) v1 _) := zf.out.below hbk)
           have iN : Hid (DSt w v1 (w.heap.size + 1 + 1) w.heap.size (w.heap.size + 1) (w.heap.size + 1 + 1 + 1) #[.bool a1.1, .slice ao la ca, .int .i64 a1.2.2, .bool a2.1, .slice bo lb cb, .int .i64 a2.2.2] #[.bool b1.1, .slice co lc cc, .int .i64 b1.2.2, .bool b2.1, .slice do_ ld cd, .int .i64 b2.2.2]) := iN.out.below hbk
           clear hl hn hbk)
        | (go_at_call 122; with_reducible (refine Calls.mono (Q1.out _ ?_) ?_); (with_reducible exact (iN.out.alloc _).hb); rintro e v1 ⟨o1, l1, c1, rfl, hl, hn, hbk⟩
           have E1 : Hid (l1 = _) := hl
           have N1 : Hid (NatV v1 (.slice o1 l1 c1) _) := hn
           have N0 : Hid (NatV v1 (.slice o0 l0 c0) _) := (N0.out.below ((Below.refl _ _).alloc (Nat.le_refl _) _) (Nat.le_refl _)).below hbk (Nat.le_refl _)
           have zf : Hid (Box0 (w.heap.size + 1 + 1 + 1) v1 _) := (Box0.new iN.out.sz).below hbk
           have iN : Hid (DSt w v1 (w.heap.size + 1 + 1) w.heap.size (w.heap.size + 1) (w.heap.size + 1 + 1 + 1) #[.bool a1.1, .slice ao la ca, .int .i64 a1.2.2, .bool a2.1, .slice bo lb cb, .int .i64 a2.2.2] #[.bool b1.1, .slice co lc cc, .int .i64 b1.2.2, .bool b2.1, .slice do_ ld cd, .int .i64 b2.2.2]) := (iN.out.alloc _).below hbk
           clear hl hn hbk)
        | (go_at_call 122; with_reducible (refine Calls.mono (Q2.out _ ?_) ?_); (with_reducible exact iN.out.hb); rintro e v2 ⟨o2, l2, c2, rfl, hl, hn, hbk⟩
           have E2 : Hid (l2 = _) := hl
           have N2 : Hid (NatV v2 (.slice o2 l2 c2) _) := hn
           have N0 : Hid (NatV v2 (.slice o0 l0 c0) _) := N0.out.below hbk (Nat.le_refl _)
           have N1 : Hid (NatV v2 (.slice o1 l1 c1) _) := N1.out.below hbk (Nat.le_refl _)
           try (have zf : Hid (Box0 (w.heap.size + 1 + 1 + 1) v2 _) := zf.out.below hbk)
           have iN : Hid (DSt w v2 (w.heap.size + 1 + 1) w.heap.size (w.heap.size + 1) (w.heap.size + 1 + 1 + 1) #[.bool a1.1, .slice ao la ca, .int .i64 a1.2.2, .bool a2.1, .slice bo lb cb, .int .i64 a2.2.2] #[.bool b1.1, .slice co lc cc, .int .i64 b1.2.2, .bool b2.1, .slice do_ ld cd, .int .i64 b2.2.2]) := iN.out.below hbk
           clear hl hn hbk)
        | (go_at_call 122; with_reducible (refine Calls.mono (Q2.out _ ?_) ?_); (with_reducible exact (iN.out.alloc _).hb); rintro e v2 ⟨o2, l2, c2, rfl, hl, hn, hbk⟩
           have E2 : Hid (l2 = _) := hl
           have N2 : Hid (NatV v2 (.slice o2 l2 c2) _) := hn
           have N0 : Hid (NatV v2 (.slice o0 l0 c0) _) := (N0.out.below ((Below.refl _ _).alloc (Nat.le_refl _) _) (Nat.le_refl _)).below hbk (Nat.le_refl _)
           have N1 : Hid (NatV v2 (.slice o1 l1 c1) _) := (N1.out.below ((Below.refl _ _).alloc (Nat.le_refl _) _) (Nat.le_refl _)).below hbk (Nat.le_refl _)
           have zf : Hid (Box0 (w.heap.size + 1 + 1 + 1) v2 _) := (Box0.new iN.out.sz).below hbk
           have iN : Hid (DSt w v2 (w.heap.size + 1 + 1) w.heap.size (w.heap.size + 1) (w.heap.size + 1 + 1 + 1) #[.bool a1.1, .slice ao la ca, .int .i64 a1.2.2, .bool a2.1, .slice bo lb cb, .int .i64 a2.2.2] #[.bool b1.1, .slice co lc cc, .int .i64 b1.2.2, .bool b2.1, .slice do_ ld cd, .int .i64 b2.2.2]) := (iN.out.alloc _).below hbk
           clear hl hn hbk)
        | (go_at_call 122; with_reducible (refine Calls.mono (Q3.out _ ?_) ?_); (with_reducible exact iN.out.hb); rintro e v3 ⟨o3, l3, c3, rfl, hl, hn, hbk⟩
           have E3 : Hid (l3 = _) := hl
           have N3 : Hid (NatV v3 (.slice o3 l3 c3) _) := hn
           have N0 : Hid (NatV v3 (.slice o0 l0 c0) _) := N0.out.below hbk (Nat.le_refl _)
           have N1 : Hid (NatV v3 (.slice o1 l1 c1) _) := N1.out.below hbk (Nat.le_refl _)
           have N2 : Hid (NatV v3 (.slice o2 l2 c2) _) := N2.out.below hbk (Nat.le_refl _)
           try (have zf : Hid (Box0 (w.heap.size + 1 + 1 + 1) v3 _) := zf.out.below hbk)
           have iN : Hid (DSt w v3 (w.heap.size + 1 + 1) w.heap.size (w.heap.size + 1) (w.heap.size + 1 + 1 + 1) #[.bool a1.1, .slice ao la ca, .int .i64 a1.2.2, .bool a2.1, .slice bo lb cb, .int .i64 a2.2.2] #[.bool b1.1, .slice co lc cc, .int .i64 b1.2.2, .bool b2.1, .slice do_ ld cd, .int .i64 b2.2.2]) := iN.out.below hbk
           clear hl hn hbk)
        | (go_at_call 122; with_reducible (refine Calls.mono (Q3.out _ ?_) ?_); (with_reducible exact (iN.out.alloc _).hb); rintro e v3 ⟨o3, l3, c3, rfl, hl, hn, hbk⟩
           have E3 : Hid (l3 = _) := hl
           have N3 : Hid (NatV v3 (.slice o3 l3 c3) _) := hn
           have N0 : Hid (NatV v3 (.slice o0 l0 c0) _) := (N0.out.below ((Below.refl _ _).alloc (Nat.le_refl _) _) (Nat.le_refl _)).below hbk (Nat.le_refl _)
           have N1 : Hid (NatV v3 (.slice o1 l1 c1) _) := (N1.out.below ((Below.refl _ _).alloc (Nat.le_refl _) _) (Nat.le_refl _)).below hbk (Nat.le_refl _)
           have N2 : Hid (NatV v3 (.slice o2 l2 c2) _) := (N2.out.below ((Below.refl _ _).alloc (Nat.le_refl _) _) (Nat.le_refl _)).below hbk (Nat.le_refl _)
           have zf : Hid (Box0 (w.heap.size + 1 + 1 + 1) v3 _) := (Box0.new iN.out.sz).below hbk
           have iN : Hid (DSt w v3 (w.heap.size + 1 + 1) w.heap.size (w.heap.size + 1) (w.heap.size + 1 + 1 + 1) #[.bool a1.1, .slice ao la ca, .int .i64 a1.2.2, .bool a2.1, .slice bo lb cb, .int .i64 a2.2.2] #[.bool b1.1, .slice co lc cc, .int .i64 b1.2.2, .bool b2.1, .slice do_ ld cd, .int .i64 b2.2.2]) := (iN.out.alloc _).below hbk
           clear hl hn hbk)
        | (go_at_call 63; refine Calls.mono (HSP.out _ _ o0 o1 o2 o3 l0 l1 l2 l3 c0 c1 c2 c3 ?_ E0.out E1.out E2.out E3.out ?_ ?_ ?_ ?_) ?_
           · exact blk_new v3 _
           · exact N0.out.below ((Below.refl _ v3).alloc (Nat.le_refl _) _) (Nat.le_refl _)
           · exact N1.out.below ((Below.refl _ v3).alloc (Nat.le_refl _) _) (Nat.le_refl _)
           · exact N2.out.below ((Below.refl _ v3).alloc (Nat.le_refl _) _) (Nat.le_refl _)
           · exact N3.out.below ((Below.refl _ v3).alloc (Nat.le_refl _) _) (Nat.le_refl _)
           rintro e v4 ⟨rfl, hbk⟩
           try (have zf : Hid (Box0 (w.heap.size + 1 + 1 + 1) v4 _) := (zf.out.alloc _).below hbk; obtain ⟨zc0, zc1, zc2, zc3⟩ := blk2 zf.out.1)
           have iN : Hid (DSt w v4 (w.heap.size + 1 + 1) w.heap.size (w.heap.size + 1) (w.heap.size + 1 + 1 + 1) #[.bool a1.1, .slice ao la ca, .int .i64 a1.2.2, .bool a2.1, .slice bo lb cb, .int .i64 a2.2.2] #[.bool b1.1, .slice co lc cc, .int .i64 b1.2.2, .bool b2.1, .slice do_ ld cd, .int .i64 b2.2.2]) := (iN.out.alloc _).below hbk
           clear hbk)
        | (go_at_call 63; refine Calls.mono (HSP.out _ _ o0 o1 o2 o3 l0 l1 l2 l3 c0 c1 c2 c3 ?_ E0.out E1.out E2.out E3.out ?_ ?_ ?_ ?_) ?_
           · exact blk_old (blk_new v3 _) _
           · exact N0.out.below (((Below.refl _ v3).alloc (Nat.le_refl _) _).alloc (by simp) _) (Nat.le_refl _)
           · exact N1.out.below (((Below.refl _ v3).alloc (Nat.le_refl _) _).alloc (by simp) _) (Nat.le_refl _)
           · exact N2.out.below (((Below.refl _ v3).alloc (Nat.le_refl _) _).alloc (by simp) _) (Nat.le_refl _)
           · exact N3.out.below (((Below.refl _ v3).alloc (Nat.le_refl _) _).alloc (by simp) _) (Nat.le_refl _)
           rintro e v4 ⟨rfl, hbk⟩
           have zf : Hid (Box0 (w.heap.size + 1 + 1 + 1) v4 (v3.heap.size + 1)) := by
             have hz := (Box0.new (iN.out.alloc (Obj.cells #[.bool q0.1, .slice o0 l0 c0, .int .i64 q0.2.2, .bool q1.1, .slice o1 l1 c1, .int .i64 q1.2.2, .bool q2.1, .slice o2 l2 c2, .int .i64 q2.2.2, .bool q3.1, .slice o3 l3 c3, .int .i64 q3.2.2] 92)).sz).below hbk
             simp only [World.size_alloc] at hz
             exact hz
           obtain ⟨zc0, zc1, zc2, zc3⟩ := blk2 zf.out.1
           have iN : Hid (DSt w v4 (w.heap.size + 1 + 1) w.heap.size (w.heap.size + 1) (w.heap.size + 1 + 1 + 1) #[.bool a1.1, .slice ao la ca, .int .i64 a1.2.2, .bool a2.1, .slice bo lb cb, .int .i64 a2.2.2] #[.bool b1.1, .slice co lc cc, .int .i64 b1.2.2, .bool b2.1, .slice do_ ld cd, .int .i64 b2.2.2]) := ((iN.out.alloc _).alloc _).below hbk
           clear hbk)
        | (go_at_call 63; refine Calls.mono (HSP.out _ _ o0 o1 o2 o3 l0 l1 l2 l3 c0 c1 c2 c3 ?_ E0.out E1.out E2.out E3.out ?_ ?_ ?_ ?_) ?_
           · (have hgx := blk_new (v3.alloc (Obj.cells #[.int .u64 0, .int .u64 0] 28)) (Obj.cells #[.bool q0.1, .slice o0 l0 c0, .int .i64 q0.2.2, .bool q1.1, .slice o1 l1 c1, .int .i64 q1.2.2, .bool q2.1, .slice o2 l2 c2, .int .i64 q2.2.2, .bool q3.1, .slice o3 l3 c3, .int .i64 q3.2.2] 92); simp only [World.size_alloc] at hgx; exact hgx)
           · exact N0.out.below (((Below.refl _ v3).alloc (Nat.le_refl _) _).alloc (by simp) _) (Nat.le_refl _)
           · exact N1.out.below (((Below.refl _ v3).alloc (Nat.le_refl _) _).alloc (by simp) _) (Nat.le_refl _)
           · exact N2.out.below (((Below.refl _ v3).alloc (Nat.le_refl _) _).alloc (by simp) _) (Nat.le_refl _)
           · exact N3.out.below (((Below.refl _ v3).alloc (Nat.le_refl _) _).alloc (by simp) _) (Nat.le_refl _)
           rintro e v4 ⟨rfl, hbk⟩
           have zf : Hid (Box0 (w.heap.size + 1 + 1 + 1) v4 v3.heap.size) := ((Box0.new iN.out.sz).alloc _).below hbk
           obtain ⟨zc0, zc1, zc2, zc3⟩ := blk2 zf.out.1
           have iN : Hid (DSt w v4 (w.heap.size + 1 + 1) w.heap.size (w.heap.size + 1) (w.heap.size + 1 + 1 + 1) #[.bool a1.1, .slice ao la ca, .int .i64 a1.2.2, .bool a2.1, .slice bo lb cb, .int .i64 a2.2.2] #[.bool b1.1, .slice co lc cc, .int .i64 b1.2.2, .bool b2.1, .slice do_ ld cd, .int .i64 b2.2.2]) := ((iN.out.alloc _).alloc _).below hbk
           clear hbk))
    all_goals (go_wp2_with fail; go_meet; refine ⟨_, rfl, rfl, ?_⟩)
    all_goals first | with_reducible exact iN.out.finSet zf.out _ _ | with_reducible exact iN.out.finNew _ _
  case rest =>
    obtain ⟨g, rfl, rfl, F⟩ := hcut
    have HF : Hid (Fin w wc (w.heap.size + 1 + 1) g (.int .u64 (r1 : Int)) (.int .u64 (r2 : Int))) := F
    obtain ⟨p0, p1, -, -⟩ := blk2 F.c
    clear F
    go_wp2_with fail
    refine Calls.mono (HNM.out _) ?_
    rintro ev w9 ⟨rfl, hb9⟩
    have HK : Hid (w9.heap[(w.heap.size + 1 + 1)]? = _) := blk_below HF.out.k2 hb9
    have HB : Hid (Below w.heap.size w w9) := HF.out.hb.trans (hb9.mono HF.out.hb.size)
    clear hb9 p0 p1
    obtain ⟨q0, q1, q2, q3⟩ := blk2 HK.out
    go_wp2_with fail
    obtain ⟨p0, p1, -, -⟩ := blk2 (blk_store2 (a := .int .u64 ((nameT (r1, r2, r3) ⟨#[47]⟩).1 : Int)) (b := .int .u64 ((nameT (r1, r2, r3) ⟨#[47]⟩).2.1 : Int)) HK.out)
    refine bodyPost_ret (v := .tuple #[.agg #[.int .u64 ((nameT (r1, r2, r3) ⟨#[47]⟩).1 : Int), .int .u64 ((nameT (r1, r2, r3) ⟨#[47]⟩).2.1 : Int)], .int .i64 ((nameT (r1, r2, r3) ⟨#[47]⟩).2.2.1 : Int), .string (nameT (r1, r2, r3) ⟨#[47]⟩).2.2.2]) (by simp [results, Tryz.results68, go_sem, p0, p1]) rfl ?_
    exact ⟨rfl, (HB.out.setCell (by exact HF.out.l2) _).setCell (by exact HF.out.l2) _⟩
end Go.Proofs.YtonhpkigoplmaaaGreatDoor
namespace Go.Proofs.YtonhpkigoplmaaaGreatDoor
open Go.RowKit Go.Extern Ieee

/-- A number of few digits. -/
structure Sm (x : Bool × Nat × Int) : Prop where
  b : bl x.2.1 ≤ 10000
  l : -10000 ≤ x.2.2
  u : x.2.2 ≤ 10000

theorem Sm.small {x : Bool × Nat × Int} (h : Sm x) : Small x := ⟨by have := h.b; omega, by have := h.l; omega, by have := h.u; omega⟩
theorem Sm.len {x : Bool × Nat × Int} (h : Sm x) : (digits x.2.1).length ≤ 1000 := by have := len_of_bl x.2.1; have := h.b; omega
theorem Sm.both {x : Bool × Nat × Int} (h : Sm x) : Small x ∧ (digits x.2.1).length ≤ 400000 := ⟨h.small, by have := h.len; omega⟩

/-- What is known of a plain float's number. -/
structure Pl (x : Bool × Nat × Int) : Prop where
  n : x.2.1 < 9007199254740992
  l : -952 ≤ x.2.2
  u : x.2.2 ≤ 848

theorem pl_of {b : Nat} {x : Bool × Nat × Int} (h : plainN b = some x) : Pl x := by
  rcases plain_num h with h | ⟨h1, h2, h3, h4⟩
  · subst h; exact ⟨by decide, by decide, by decide⟩
  · exact ⟨h2, h3, h4⟩

theorem Pl.bits {x : Bool × Nat × Int} (h : Pl x) : bl x.2.1 ≤ 53 := bl_le (by rw [p53]; exact h.n)
theorem Pl.sm {x : Bool × Nat × Int} (h : Pl x) : Sm x := ⟨by have := h.bits; omega, by have := h.l; omega, by have := h.u; omega⟩
theorem Pl.neg {x : Bool × Nat × Int} (h : Pl x) : Pl (negT x) := ⟨h.n, h.l, h.u⟩

theorem bl_zero2 : bl 0 = 0 := bl_zero
theorem bl_mono2 {n m : Nat} (h : n ≤ m) : bl n ≤ bl m := by
  by_cases h0 : n = 0
  · subst h0; rw [bl_zero2]; exact Nat.zero_le _
  · exact bl_mono h0 h
theorem lt_bl (n : Nat) : n < 2 ^ bl n := by
  rcases Nat.eq_zero_or_pos n with h | h
  · subst h; exact Nat.two_pow_pos _
  · exact (bl_bounds h).2.1
theorem bl_shift2 (n k : Nat) : bl (n * 2 ^ k) ≤ bl n + k := bl_le (by rw [Nat.pow_add]; exact Nat.mul_lt_mul_of_pos_right (lt_bl n) (Nat.two_pow_pos k))
theorem bl_mul2 (m n : Nat) : bl (m * n) ≤ bl m + bl n := bl_le (by rw [Nat.pow_add]; exact Nat.mul_lt_mul'' (lt_bl m) (lt_bl n))
theorem bl_add2 {a b M : Nat} (ha : bl a ≤ M) (hb : bl b ≤ M) : bl (a + b) ≤ M + 1 := by
  refine bl_le ?_
  have h1 := Nat.lt_of_lt_of_le (lt_bl a) (Nat.pow_le_pow_right (by decide) ha)
  have h2 := Nat.lt_of_lt_of_le (lt_bl b) (Nat.pow_le_pow_right (by decide) hb)
  rw [Nat.pow_succ]; omega

theorem Pl.sum {x y : Bool × Nat × Int} (hx : Pl x) (hy : Pl y) : Sm (sumT x y) := by
  obtain ⟨s, n, e⟩ := x
  obtain ⟨t, m, f⟩ := y
  have b1 := hx.bits; have b2 := hy.bits
  have l1 := hx.l; have l2 := hy.l; have u1 := hx.u; have u2 := hy.u
  simp only at b1 b2 l1 l2 u1 u2
  have a1 : bl (lvA n e f) ≤ 2000 := by
    have := bl_shift2 n (e - min e f).toNat
    unfold lvA; omega
  have a2 : bl (lvB m e f) ≤ 2000 := by
    have := bl_shift2 m (f - min e f).toNat
    unfold lvB; omega
  have a3 := bl_add2 a1 a2
  have a4 := bl_mono2 (Nat.sub_le (lvA n e f) (lvB m e f))
  have a5 := bl_mono2 (Nat.sub_le (lvB m e f) (lvA n e f))
  show Sm (sumN s n e t m f)
  unfold sumN
  split
  · exact ⟨by simp only; omega, by simp only; omega, by simp only; omega⟩
  · split
    · exact ⟨by simp only; rw [bl_zero2]; omega, by simp only; omega, by simp only; omega⟩
    · split
      · exact ⟨by simp only; omega, by simp only; omega, by simp only; omega⟩
      · exact ⟨by simp only; omega, by simp only; omega, by simp only; omega⟩

theorem Pl.prod {x y : Bool × Nat × Int} (hx : Pl x) (hy : Pl y) : Sm (prodN x y) := by
  have b1 := hx.bits; have b2 := hy.bits
  have l1 := hx.l; have l2 := hy.l; have u1 := hx.u; have u2 := hy.u
  have := bl_mul2 x.2.1 y.2.1
  unfold prodN
  exact ⟨by simp only; omega, by simp only; omega, by simp only; omega⟩

theorem bl_mark {q : Nat} {w : Bool} {M : Nat} (h : bl q ≤ M) : bl (2 * q + (if w then 0 else 1)) ≤ M + 1 := by
  refine bl_le ?_
  have h1 := Nat.lt_of_lt_of_le (lt_bl q) (Nat.pow_le_pow_right (by decide) h)
  rw [Nat.pow_succ]
  cases w <;> simp <;> omega

theorem Pl.quo {x y : Bool × Nat × Int} (hx : Pl x) (hy : Pl y) : Sm (quoN x y) := by
  have b1 := hx.bits; have b2 := hy.bits
  have l1 := hx.l; have l2 := hy.l; have u1 := hx.u; have u2 := hy.u
  have h1 := bl_shift2 x.2.1 (60 + bl y.2.1)
  have h2 := bl_mono2 (Nat.div_le_self (x.2.1 * 2 ^ (60 + bl y.2.1)) y.2.1)
  have h3 := bl_mark (q := x.2.1 * 2 ^ (60 + bl y.2.1) / y.2.1) (w := decide (x.2.1 * 2 ^ (60 + bl y.2.1) % y.2.1 = 0)) (Nat.le_refl _)
  unfold quoN markN
  exact ⟨by simp only; omega, by simp only; omega, by simp only; omega⟩

theorem Pl.root {x : Bool × Nat × Int} (hx : Pl x) : Sm (rootN x) := by
  have b1 := hx.bits
  have l1 := hx.l; have u1 := hx.u
  have hk : rk 130 x.2.2 ≤ 131 := by unfold rk; split <;> omega
  have h1 := bl_shift2 x.2.1 (rk 130 x.2.2)
  have h0 := (isq_spec (x.2.1 * 2 ^ rk 130 x.2.2)).1
  have h2 : isq (x.2.1 * 2 ^ rk 130 x.2.2) ≤ x.2.1 * 2 ^ rk 130 x.2.2 := Nat.le_trans (Nat.le_mul_self _) h0
  have h3 := bl_mono2 h2
  have h4 := bl_mark (q := isq (x.2.1 * 2 ^ rk 130 x.2.2)) (w := decide (isq (x.2.1 * 2 ^ rk 130 x.2.2) * isq (x.2.1 * 2 ^ rk 130 x.2.2) = x.2.1 * 2 ^ rk 130 x.2.2)) (Nat.le_refl _)
  unfold rootN markN
  exact ⟨by simp only; omega, by simp only; omega, by simp only; omega⟩

/-- The sign, by the place. -/
theorem sgn_pos (x : Bool × Nat × Int) (way : Int) : (sgnI x.1 x.2.1 < 0 ↔ posV x way < 0) ∧ (0 < sgnI x.1 x.2.1 ↔ 0 < posV x way) ∧ (x.2.1 = 0 ↔ posV x way = 0) := by
  obtain ⟨s, n, e⟩ := x
  have c := clampR_bounds (endR s n e way)
  unfold sgnI posV
  simp only
  by_cases h0 : n = 0
  · rw [if_pos h0, if_pos h0]; simp [h0]
  · rw [if_neg h0, if_neg h0]
    unfold sgI
    cases s
    · rw [if_neg Bool.false_ne_true, if_neg Bool.false_ne_true]; omega
    · rw [if_pos rfl, if_pos rfl]; omega

theorem around_g {x y : Bool × Nat × Int} (sx : Sm x) (sy : Sm y) (W : World) (o0 o1 : Option Addr) (l0 l1 c0 c1 : Nat) (h0 : l0 = (digits x.2.1).length) (h1 : l1 = (digits y.2.1).length) (n0 : NatV W (.slice o0 l0 c0) x.2.1) (n1 : NatV W (.slice o1 l1 c1) y.2.1) :
    Calls Tryz.prog 62 #[.agg #[.bool x.1, .slice o0 l0 c0, .int .i64 x.2.2], .agg #[.bool y.1, .slice o1 l1 c1, .int .i64 y.2.2]] W fun ev w' => ev = .returned (.tuple #[.agg #[.int .u64 ((aroundN x y).1 : Int), .int .u64 ((aroundN x y).2.1 : Int)], .int .i64 ((aroundN x y).2.2 : Int)]) ∧ Below W.heap.size W w' :=
  around_any _ _ x y W ⟨o0, l0, c0, rfl, h0, n0⟩ ⟨o1, l1, c1, rfl, h1, n1⟩ sx.small sy.small

theorem span_g {q0 q1 q2 q3 : Bool × Nat × Int} (s0 : Sm q0) (s1 : Sm q1) (s2 : Sm q2) (s3 : Sm q3) (g : Nat) (W : World) (o0 o1 o2 o3 : Option Addr) (l0 l1 l2 l3 c0 c1 c2 c3 : Nat)
    (hg : W.heap[g]? = some (.cells #[.bool q0.1, .slice o0 l0 c0, .int .i64 q0.2.2, .bool q1.1, .slice o1 l1 c1, .int .i64 q1.2.2, .bool q2.1, .slice o2 l2 c2, .int .i64 q2.2.2, .bool q3.1, .slice o3 l3 c3, .int .i64 q3.2.2] 92 (0, 0)))
    (e0 : l0 = (digits q0.2.1).length) (e1 : l1 = (digits q1.2.1).length) (e2 : l2 = (digits q2.2.1).length) (e3 : l3 = (digits q3.2.1).length) (n0 : NatV W (.slice o0 l0 c0) q0.2.1) (n1 : NatV W (.slice o1 l1 c1) q1.2.1) (n2 : NatV W (.slice o2 l2 c2) q2.2.1) (n3 : NatV W (.slice o3 l3 c3) q3.2.1) :
    Calls Tryz.prog 63 #[.slice (some ⟨g, 0, none⟩) 4 4] W fun ev w' => ev = .returned (.tuple #[.agg #[.int .u64 ((spanT q0 q1 q2 q3).1 : Int), .int .u64 ((spanT q0 q1 q2 q3).2.1 : Int)], .int .i64 ((spanT q0 q1 q2 q3).2.2 : Int)]) ∧ Below W.heap.size W w' :=
  span_any g _ _ _ _ W (four_of hg e0 e1 e2 e3 n0 n1 n2 n3 s0.both s1.both s2.both s3.both)

theorem sum_g {x y : Bool × Nat × Int} (sx : Sm x) (sy : Sm y) (W : World) (po qo : Option Addr) (lp cp lq cq : Nat) (h0 : lp = (digits x.2.1).length) (n0 : NatV W (.slice po lp cp) x.2.1) (h1 : lq = (digits y.2.1).length) (n1 : NatV W (.slice qo lq cq) y.2.1) :
    Calls Tryz.prog 65 #[.agg #[.bool x.1, .slice po lp cp, .int .i64 x.2.2], .agg #[.bool y.1, .slice qo lq cq, .int .i64 y.2.2]] W fun ev w'' => ∃ vo vl vc, ev = .returned (.agg #[.bool (sumT x y).1, .slice vo vl vc, .int .i64 (sumT x y).2.2]) ∧ vl = (digits (sumT x y).2.1).length ∧ NatV w'' (.slice vo vl vc) (sumT x y).2.1 ∧ Below W.heap.size W w'' := by
  have a := sx.len; have b := sy.len; have c := sx.l; have d := sx.u; have e := sy.l; have f := sy.u
  refine (sum_any _ _ x.1 y.1 x.2.1 y.2.1 x.2.2 y.2.2 W ⟨po, lp, cp, rfl, h0, n0⟩ ⟨qo, lq, cq, rfl, h1, n1⟩ (by omega) (by omega) (by omega) (by omega) (by omega) (by omega)).mono ?_
  rintro ev w'' ⟨v, rfl, ⟨vo, vl, vc, rfl, h2, h3⟩, h4⟩
  exact ⟨vo, vl, vc, rfl, h2, h3, h4⟩

theorem prod_g {x y : Bool × Nat × Int} (sx : Sm x) (sy : Sm y) (W : World) (po qo : Option Addr) (lp cp lq cq : Nat) (h0 : lp = (digits x.2.1).length) (n0 : NatV W (.slice po lp cp) x.2.1) (h1 : lq = (digits y.2.1).length) (n1 : NatV W (.slice qo lq cq) y.2.1) :
    Calls Tryz.prog 67 #[.agg #[.bool x.1, .slice po lp cp, .int .i64 x.2.2], .agg #[.bool y.1, .slice qo lq cq, .int .i64 y.2.2]] W fun ev w'' => ∃ vo vl vc, ev = .returned (.agg #[.bool (prodN x y).1, .slice vo vl vc, .int .i64 (prodN x y).2.2]) ∧ vl = (digits (prodN x y).2.1).length ∧ NatV w'' (.slice vo vl vc) (prodN x y).2.1 ∧ Below W.heap.size W w'' := by
  have a := sx.len; have b := sy.len; have c := sx.l; have d := sx.u; have e := sy.l; have f := sy.u
  refine (product_any _ _ x.1 y.1 x.2.1 y.2.1 x.2.2 y.2.2 W ⟨po, lp, cp, rfl, h0, n0⟩ ⟨qo, lq, cq, rfl, h1, n1⟩ (by omega) (by omega) (by omega) (by omega) (by omega) (by omega)).mono ?_
  rintro ev w'' ⟨v, rfl, ⟨vo, vl, vc, rfl, h2, h3⟩, h4⟩
  exact ⟨vo, vl, vc, rfl, h2, h3, h4⟩

theorem root_g {x : Bool × Nat × Int} (sx : Sm x) (W : World) (po : Option Addr) (lp cp : Nat) (h0 : lp = (digits x.2.1).length) (n0 : NatV W (.slice po lp cp) x.2.1) :
    Calls Tryz.prog 70 #[.agg #[.bool x.1, .slice po lp cp, .int .i64 x.2.2]] W fun ev w'' => ∃ vo vl vc, ev = .returned (.agg #[.bool (rootN x).1, .slice vo vl vc, .int .i64 (rootN x).2.2]) ∧ vl = (digits (rootN x).2.1).length ∧ NatV w'' (.slice vo vl vc) (rootN x).2.1 ∧ Below W.heap.size W w'' := by
  have a := sx.len; have c := sx.l; have d := sx.u
  refine (rooted_any _ x.1 x.2.1 x.2.2 W ⟨po, lp, cp, rfl, h0, n0⟩ (by omega) (by omega) (by omega)).mono ?_
  rintro ev w'' ⟨v, c, rfl, hc, ⟨vo, vl, vc, rfl, h2, h3⟩, h4⟩
  rw [← root_rootN hc]
  exact ⟨vo, vl, vc, rfl, h2, h3, h4⟩

theorem quo_g {x y : Bool × Nat × Int} (sx : Sm x) (sy : Sm y) (h0 : y.2.1 ≠ 0) (u v : Value) (W : World) (hu : NumV W u x.1 x.2.1 x.2.2) (hv : NumV W v y.1 y.2.1 y.2.2) :
    Calls Tryz.prog 122 #[u, v] W fun ev w'' => ∃ z, ev = .returned z ∧ NumV w'' z (quoN x y).1 (quoN x y).2.1 (quoN x y).2.2 ∧ Below W.heap.size W w'' := by
  have a := sx.len; have b := sy.len; have c := sx.l; have d := sx.u; have e := sy.l; have f := sy.u
  rw [← quoT_quoN]
  exact quotient_any _ _ x.1 y.1 x.2.1 y.2.1 x.2.2 y.2.2 W hu hv (by omega) (by omega) (by omega) (by omega) (by omega) (by omega) (by omega)

theorem iv_ne {l h : Nat} (i : Iv l h) (hz : holdsT (plT l) (plT h) = false) : (plT l).2.1 ≠ 0 ∧ (plT h).2.1 ≠ 0 := by
  have a := sgn_pos (plT l) 1
  have b := sgn_pos (plT h) 1
  rw [i.v1 1] at a
  rw [i.v2 1] at b
  have hl := i.le
  unfold holdsT at hz
  rw [Bool.and_eq_false_iff, decide_eq_false_iff_not, decide_eq_false_iff_not] at hz
  constructor
  · intro h0; have := a.2.2.1 h0; omega
  · intro h0; have := b.2.2.1 h0; omega

set_option maxRecDepth 100000 in
theorem refOp_any (k : Int) (xl xh yl yh : Nat) (w : World) (h1 : xl < 18446744073709551616) (h2 : xh < 18446744073709551616) (h3 : yl < 18446744073709551616) (h4 : yh < 18446744073709551616)
    (al ah bl_ bh : Nat) (e1 : al = (makeN xl xh).1) (e2 : ah = (makeN xl xh).2.1) (e3 : bl_ = (makeN yl yh).1) (e4 : bh = (makeN yl yh).2.1) (r : Nat × Nat × Nat × ByteArray) (hr : r = refOpN k (plT al) (plT ah) (plT bl_) (plT bh)) :
    Calls Tryz.prog 29 #[.int .i64 k, .agg #[.int .u64 (xl : Int), .int .u64 (xh : Int)], .agg #[.int .u64 (yl : Int), .int .u64 (yh : Int)]] w fun e w' => e = .returned (.tuple #[.agg #[.int .u64 (r.1 : Int), .int .u64 (r.2.1 : Int)], .int .i64 (r.2.2.1 : Int), .string r.2.2.2]) ∧ Below w.heap.size w w' := by
  have iA : Iv al ah := by rw [e1, e2]; exact made_iv xl xh h1 h2
  have iB : Iv bl_ bh := by rw [e3, e4]; exact made_iv yl yh h3 h4
  have hx : MadeG #[.agg #[.int .u64 (xl : Int), .int .u64 (xh : Int)]] (plT al) (plT ah) := by rw [e1, e2]; exact made_gives xl xh h1 h2
  have hy : MadeG #[.agg #[.int .u64 (yl : Int), .int .u64 (yh : Int)]] (plT bl_) (plT bh) := by rw [e3, e4]; exact made_gives yl yh h3 h4
  clear e1 e2 e3 e4 h1 h2 h3 h4
  have p1 := pl_of iA.p1
  have p2 := pl_of iA.p2
  have p3 := pl_of iB.p1
  have p4 := pl_of iB.p2
  have hne := iv_ne iB
  clear iA iB
  generalize plT al = a1 at *
  generalize plT ah = a2 at *
  generalize plT bl_ = b1 at *
  generalize plT bh = b2 at *
  subst hr
  unfold refOpN
  by_cases k0 : k = 0
  · subst k0
    rw [if_pos rfl]
    exact refOp_neg xl xh yl yh a1 a2 b1 b2 _ _ _ w hx hy (around_g p2.neg.sm p1.neg.sm)
  rw [if_neg k0]
  by_cases k1 : k = 1
  · subst k1
    rw [if_pos rfl]
    exact refOp_hull xl xh yl yh a1 a2 b1 b2 _ _ _ w hx hy (span_g p1.sm p2.sm p3.sm p4.sm)
  rw [if_neg k1]
  by_cases k2 : k = 2
  · subst k2
    rw [if_pos rfl]
    exact refOp_meet xl xh yl yh a1 a2 b1 b2 (meetT a1 a2 b1 b2).1 (meetT a1 a2 b1 b2).2.1 (meetT a1 a2 b1 b2).2.2 ⟨#[]⟩ w hx hy (fun W va vb ha hb => meet_any va vb a1 a2 b1 b2 W ha hb p1.sm.both p2.sm.both p3.sm.both p4.sm.both)
  rw [if_neg k2]
  by_cases k3 : k = 3
  · subst k3
    rw [if_pos rfl]
    exact refOp_add xl xh yl yh a1 a2 b1 b2 _ _ _ _ _ w hx hy (sum_g p1.sm p3.sm) (sum_g p2.sm p4.sm) (around_g (p1.sum p3) (p2.sum p4))
  rw [if_neg k3]
  by_cases k4 : k = 4
  · subst k4
    rw [if_pos rfl]
    exact refOp_sub xl xh yl yh a1 a2 b1 b2 (sumT a1 (negT b2)) (sumT a2 (negT b1)) (aroundN (sumT a1 (negT b2)) (sumT a2 (negT b1))).1 (aroundN (sumT a1 (negT b2)) (sumT a2 (negT b1))).2.1 (aroundN (sumT a1 (negT b2)) (sumT a2 (negT b1))).2.2 w hx hy (sum_g (x := a1) (y := negT b2) p1.sm p4.neg.sm) (sum_g (x := a2) (y := negT b1) p2.sm p3.neg.sm) (around_g (p1.sum p4.neg) (p2.sum p3.neg))
  rw [if_neg k4]
  by_cases k5 : k = 5
  · subst k5
    rw [if_pos rfl]
    exact refOp_mul xl xh yl yh a1 a2 b1 b2 _ _ _ _ _ _ _ w hx hy (prod_g p1.sm p3.sm) (prod_g p1.sm p4.sm) (prod_g p2.sm p3.sm) (prod_g p2.sm p4.sm) (span_g (p1.prod p3) (p1.prod p4) (p2.prod p3) (p2.prod p4))
  rw [if_neg k5]
  by_cases k6 : k = 6
  · subst k6
    rw [if_pos rfl]
    cases hz : holdsT b1 b2
    · rw [if_neg Bool.false_ne_true]
      obtain ⟨n1, n2⟩ := hne hz
      exact refOp_div xl xh yl yh a1 a2 b1 b2 _ _ _ _ w hx hy (fun W va vb ha hb => divided_any va vb a1 a2 b1 b2 (quoN a1 b1) (quoN a1 b2) (quoN a2 b1) (quoN a2 b2) W ha hb hz (fun u v w' hu hv => quo_g p1.sm p3.sm n1 u v w' hu hv) (fun u v w' hu hv => quo_g p1.sm p4.sm n2 u v w' hu hv) (fun u v w' hu hv => quo_g p2.sm p3.sm n1 u v w' hu hv) (fun u v w' hu hv => quo_g p2.sm p4.sm n2 u v w' hu hv) (p1.quo p3).both (p1.quo p4).both (p2.quo p3).both (p2.quo p4).both _ rfl)
    · rw [if_pos rfl]
      exact refOp_div xl xh yl yh a1 a2 b1 b2 0 0 4 ⟨#[47]⟩ w hx hy (fun W va vb ha hb => divided_zero va vb a1 a2 b1 b2 W ha hb hz)
  rw [if_neg k6]
  by_cases k7 : k = 7
  · subst k7
    rw [if_pos rfl]
    by_cases hs : sgnI a1.1 a1.2.1 < 0
    · rw [if_pos hs]
      exact refOp_sqrtn xl xh yl yh a1 a2 b1 b2 w hx hy hs
    · rw [if_neg hs]
      exact refOp_sqrt xl xh yl yh a1 a2 b1 b2 _ _ _ _ _ w hx hy hs (root_g p1.sm) (root_g p2.sm) (around_g p1.root p2.root)
  rw [if_neg k7]
  exact refOp_else xl xh yl yh a1 a2 b1 b2 k _ _ _ w hx hy k0 k1 k2 k3 k4 k5 k6 k7 (around_g p1.sm p2.sm)
end Go.Proofs.YtonhpkigoplmaaaGreatDoor
namespace Go.Proofs.YtonhpkigoplmaaaGreatDoor
open Go.RowKit Go.Extern Ieee

/-- The number of a word in the range of plain floats. -/
theorem plT_wd (s : Bool) {r : Nat} (h1 : 553942754166571008 ≤ r) (h2 : r ≤ 8660422083433463808) : plainN (wd s r) = some (s, r % 4503599627370496 + 4503599627370496, ((r / 4503599627370496 : Nat) : Int) - 1075) := by
  have e1 : wd s r % 4503599627370496 = r % 4503599627370496 := by unfold wd; split <;> omega
  have e2 : wd s r / 4503599627370496 % 2048 = r / 4503599627370496 := by unfold wd; split <;> omega
  have e3 : decide (wd s r / 9223372036854775808 = 1) = s := by
    unfold wd
    cases s
    · rw [if_neg Bool.false_ne_true]; exact decide_eq_false (by omega)
    · rw [if_pos rfl]; exact decide_eq_true (by omega)
  unfold plainN
  rw [e1, e2, e3, if_neg (by omega), if_neg (by omega)]

theorem wdP_sg (s : Bool) {r : Int} (h : 0 < r) : wdP (sgI s r) = wd s r.toNat := by
  unfold wdP sgI
  cases s
  · rw [if_neg Bool.false_ne_true, decide_eq_false (by omega)]; congr 1; omega
  · rw [if_pos rfl, decide_eq_true (by omega)]; congr 1; omega

theorem plP_sg (s : Bool) {r : Int} (h : plP (sgI s (clampR r)) = true) : 553942754166571008 ≤ r ∧ r ≤ 8660422083433463808 ∧ clampR r = r := by
  unfold plP at h
  rw [decide_eq_true_eq] at h
  have hc := clampR_cases r
  have ha : ((sgI s (clampR r)).natAbs : Int) = clampR r := by
    have := clampR_bounds r
    unfold sgI; cases s
    · rw [if_neg Bool.false_ne_true]; omega
    · rw [if_pos rfl]; omega
  have hz : sgI s (clampR r) ≠ 0 := by
    have := clampR_bounds r
    omega
  omega

theorem wdP_zero : wdP 0 = 0 := rfl

end Go.Proofs.YtonhpkigoplmaaaGreatDoor
namespace Go.Proofs.YtonhpkigoplmaaaGreatDoor
open Go.RowKit Go.Extern Ieee

theorem q1_two (n : Nat) : q1 n 4503599627370496 = n * 2 ^ 3 := by
  unfold q1
  have e : n * 2 ^ 54 = n * 4 * 4503599627370496 := by omega
  rw [e, Nat.mul_div_cancel _ (by decide), Nat.mul_mod_left, if_pos rfl]
  omega

theorem half_fd {b : Nat} {x : Bool × Nat × Int} (hb : b < 18446744073709551616) (hz : b ≠ 9223372036854775808) (h : plainN b = some x) : double.div b 4611686018427387904 = some (fd (-954) (vp x)) := by
  obtain ⟨s, n, e⟩ := x
  have hpn := plain_num h
  rcases plain_read hb h with ⟨rfl, rfl, hz2, _⟩ | ⟨hn, hr⟩
  · have h0 : b = 0 := by omega
    subst h0
    have : s = false := by
      have := h
      unfold plainN at this
      simp at this
      exact this
    subst this
    rw [vp_zero, fd_zero]
    rfl
  · have hnn : n ≠ 0 := by omega
    rcases hpn with hc | ⟨n1, n2, e1, e2⟩
    · cases hc; omega
    · simp only at n1 n2 e1 e2
      have r2 : double.read 4611686018427387904 = .number false 4503599627370496 (-51) := rfl
      rw [div_plain hr r2 n1 n2 (by decide) (by decide), q1_two, Bool.xor_false]
      congr 1
      have hbl : bl n = 53 := bl53 n1 n2
      have hnu : nup n = false := nup_rep (inex_small (by omega))
      have hv : vp (s, n, e) ≠ 0 := by
        unfold vp
        exact (sg_sign (Nat.mul_ne_zero hnn (Nat.pos_iff_ne_zero.1 (Nat.two_pow_pos _)))).2.2
      have hva : (vp (s, n, e)).natAbs = n * 2 ^ (e + 953).toNat := (Plnum.vp_abs (Or.inr ⟨n1, n2, e1, e2⟩))
      have hsg : decide (vp (s, n, e) < 0) = s := by
        unfold vp
        exact (sg_sign (Nat.mul_ne_zero hnn (Nat.pos_iff_ne_zero.1 (Nat.two_pow_pos _)))).1
      have hbl2 : bl (n * 2 ^ (e + 953).toNat) = 53 + (e + 953).toNat := by rw [bl_shift hnn, hbl]
      rw [fd_wd hv ⟨by omega, by rw [hva, hbl2]; omega⟩, hva, hsg, nup_shift hnn, hnu, rung_shift hnn]
      have hb8 : bl (n * 2 ^ 3) = 56 := by rw [bl_shift hnn, hbl]
      rw [nearest_rung s (Nat.mul_ne_zero hnn (by decide)) (by rw [hb8]; omega) (by rw [hb8]; omega), nup_shift hnn, hnu, rung_shift hnn]
      unfold wd
      congr 2
      congr 1
      congr 1
      omega

/-- The middle's word. -/
def midW (l h : Nat) : Nat := fd (-954) (vp (plT l) + vp (plT h))

theorem mid_fits {x : Bool × Nat × Int} (h : Plnum x) : Fits (-954) (vp x) := by
  have := bl_le h.lt
  have h1 := plM_eq
  have h2 := plN_eq
  exact ⟨by omega, by omega⟩

theorem mid_add {l h : Nat} (i : Iv l h) : double.add (fd (-954) (vp (plT l))) (fd (-954) (vp (plT h))) = some (midW l h) := by
  have p1 := plain_num i.p1
  have p2 := plain_num i.p2
  have h1 := plM_eq
  have h2 := plN_eq
  have l1 := p1.lt
  have l2 := p2.lt
  refine add_fd (mid_fits p1) (mid_fits p2) p1.rep p2.rep ⟨by omega, ?_⟩
  have : bl (vp (plT l) + vp (plT h)).natAbs ≤ plM + 1 := bl_le (by rw [Nat.pow_succ]; omega)
  omega

set_option maxRecDepth 100000 in
theorem middle_walk (l h a b m : Nat) (w : World) (h1 : double.div l 4611686018427387904 = some a) (h2 : double.div h 4611686018427387904 = some b) (h3 : double.add a b = some m) :
    Calls Tryz.prog 152 #[.agg #[.float .f64 l, .float .f64 h]] w fun e w' => e = .returned (.float .f64 m) ∧ Below w.heap.size w w' := by
  have g1 : ∀ w, (binOp .quo 65 (.float .f64 l) (.float .f64 4611686018427387904)).run Tryz.prog w = .ok (.float .f64 a) w := fun w => run_float_arith w .quo _ .f64 l 4611686018427387904 a h1
  have g2 : ∀ w, (binOp .quo 65 (.float .f64 h) (.float .f64 4611686018427387904)).run Tryz.prog w = .ok (.float .f64 b) w := fun w => run_float_arith w .quo _ .f64 h 4611686018427387904 b h2
  have g3 : ∀ w, (binOp .add 65 (.float .f64 a) (.float .f64 b)).run Tryz.prog w = .ok (.float .f64 m) w := fun w => run_float_arith w .add _ .f64 a b m h3
  clear h1 h2 h3
  go_enter Tryz.func152, Tryz.ntmps152
  go_wp2
  go_ret
  exact ⟨rfl, (Below.refl _ _).alloc (Nat.le_refl _) _⟩

theorem middle_any {l h : Nat} (i : Iv l h) (w : World) :
    Calls Tryz.prog 152 #[.agg #[.float .f64 l, .float .f64 h]] w fun e w' => e = .returned (.float .f64 (midW l h)) ∧ Below w.heap.size w w' :=
  middle_walk l h _ _ _ w (half_fd i.lt1 i.z1 i.p1) (half_fd i.lt2 i.z2 i.p2) (mid_add i)

/-- What the document's middle is: the sum, halved, to the nearest. -/
def midT (l h : Nat) : Nat × Bool := zround (sumT (plT l) (plT h)).1 (sumT (plT l) (plT h)).2.1 ((sumT (plT l) (plT h)).2.2 - 1)

theorem means_half {e z : Int} {x : Bool × Nat × Int} (h : MeansT e z x) : MeansT (e - 1) z (x.1, x.2.1, x.2.2 - 1) := by
  intro c h1 h2
  have := h (c + 1) (by simp only at h1; omega) (by omega)
  simp only
  rw [show x.2.2 - 1 - c = x.2.2 - (c + 1) by omega, show e - 1 - c = e - (c + 1) by omega]
  exact this

/-- By its meaning: the rung and whether the nearest is up. -/
theorem zround_means {e z : Int} {x : Bool × Nat × Int} (h : MeansT e z x) (hz : z ≠ 0) : zround x.1 x.2.1 x.2.2 = rngW (decide (z < 0)) (rung z.natAbs e + if nup z.natAbs then 1 else 0) := by
  obtain ⟨s, n, p⟩ := x
  have hm := h (min e p) (by simp only; omega) (by omega)
  simp only at hm ⊢
  have hp1 := Nat.two_pow_pos (p - min e p).toNat
  have hp2 := Nat.two_pow_pos (e - min e p).toNat
  have ha := congrArg Int.natAbs hm
  rw [Int.natAbs_mul, Int.natAbs_natCast, show (sg s (n * 2 ^ (p - min e p).toNat)).natAbs = n * 2 ^ (p - min e p).toNat by unfold sg; split <;> omega] at ha
  have hzn : z.natAbs ≠ 0 := by omega
  have hn : n ≠ 0 := by
    rintro rfl
    rw [Nat.zero_mul] at ha
    rcases Nat.mul_eq_zero.1 ha.symm with h | h <;> omega
  have hs : s = decide (z < 0) := by
    have h1 := sg_sign (s := s) (Nat.mul_ne_zero hn (Nat.pos_iff_ne_zero.1 hp1))
    rw [← h1.1, hm]
    apply decide_eq_decide.2
    constructor
    · intro h
      apply Decidable.byContradiction
      intro hc
      have := Int.mul_nonneg (show 0 ≤ z by omega) (Int.natCast_nonneg (2 ^ (e - min e p).toNat))
      omega
    · intro h; exact Int.mul_neg_of_neg_of_pos h (by omega)
  have r1 : rung n p = rung z.natAbs e := by
    have a1 := rung_shift hn (p - min e p).toNat (min e p)
    have a2 := rung_shift hzn (e - min e p).toNat (min e p)
    rw [ha, a2] at a1
    rw [show min e p + ((p - min e p).toNat : Int) = p by omega, show min e p + ((e - min e p).toNat : Int) = e by omega] at a1
    exact a1.symm
  have r2 : nup n = nup z.natAbs := by
    have a1 := nup_shift hn (p - min e p).toNat
    have a2 := nup_shift hzn (e - min e p).toNat
    rw [ha, a2] at a1
    exact a1.symm
  rw [zround_rung s p hn, r1, r2, hs]

/-- The two middles: the document's is there if and only if the program's is a plain float, and then they are one. -/
theorem mid_same {l h : Nat} (i : Iv l h) : (plainN (midW l h)).isSome = (midT l h).2 ∧ ((midT l h).2 = true → midW l h = (midT l h).1 ∧ FR (midW l h) (posF (midW l h))) := by
  have p1 := plain_num i.p1
  have p2 := plain_num i.p2
  have hm := means_half (sumN_means p1.means p2.means)
  have hm' : MeansT (-954) (vp (plT l) + vp (plT h)) ((sumT (plT l) (plT h)).1, (sumT (plT l) (plT h)).2.1, (sumT (plT l) (plT h)).2.2 - 1) := hm
  by_cases hz : vp (plT l) + vp (plT h) = 0
  · have hn : (sumT (plT l) (plT h)).2.1 = 0 := by
      rw [hz] at hm'
      have := hm' (min (-954) ((sumT (plT l) (plT h)).2.2 - 1)) (by simp only; omega) (by omega)
      simp only [Int.zero_mul] at this
      have hp := Nat.two_pow_pos ((sumT (plT l) (plT h)).2.2 - 1 - min (-954) ((sumT (plT l) (plT h)).2.2 - 1)).toNat
      have hx : (sumT (plT l) (plT h)).2.1 * 2 ^ ((sumT (plT l) (plT h)).2.2 - 1 - min (-954) ((sumT (plT l) (plT h)).2.2 - 1)).toNat = 0 := by
        unfold sg at this
        split at this <;> omega
      rcases Nat.mul_eq_zero.1 hx with h | h
      · exact h
      · omega
    have e1 : midW l h = 0 := by unfold midW; rw [hz, fd_zero]
    have e2 : midT l h = (0, true) := by unfold midT zround; rw [hn, if_pos rfl]
    rw [e1, e2]
    exact ⟨rfl, fun _ => ⟨rfl, FR_zero⟩⟩
  · have hzr : midT l h = _ := zround_means hm' hz
    have hf : Fits (-954) (vp (plT l) + vp (plT h)) := by
      have h1 := plM_eq
      have h2 := plN_eq
      have l1 := p1.lt
      have l2 := p2.lt
      have : bl (vp (plT l) + vp (plT h)).natAbs ≤ plM + 1 := bl_le (by rw [Nat.pow_succ]; omega)
      exact ⟨by omega, by omega⟩
    have hw : midW l h = _ := fd_wd hz hf
    have hn : (vp (plT l) + vp (plT h)).natAbs ≠ 0 := by omega
    have rb := rung_bounds (-954) hn
    have hbl := bl_pos (n := (vp (plT l) + vp (plT h)).natAbs) (by omega)
    have hf2 := hf.2
    generalize decide (vp (plT l) + vp (plT h) < 0) = s at *
    have hr : ∃ r : Int, (rung (vp (plT l) + vp (plT h)).natAbs (-954) + if nup (vp (plT l) + vp (plT h)).natAbs then 1 else 0) = r ∧ 0 < r ∧ r ≤ 9218868437227405312 := ⟨_, rfl, by split <;> omega, by split <;> omega⟩
    obtain ⟨r, er, r1, r2⟩ := hr
    rw [er] at hzr hw
    rw [hzr, hw]
    have hnz : wd s r.toNat ≠ 9223372036854775808 := by unfold wd; split <;> omega
    have hlt : wd s r.toNat < 18446744073709551616 := wd_lt (by omega)
    have hmod : wd s r.toNat % 9223372036854775808 = r.toNat := by unfold wd; split <;> omega
    have hfr : FR (wd s r.toNat) (posF (wd s r.toNat)) := ⟨hlt, hnz, by omega, rfl⟩
    unfold rngW
    by_cases hin : 553942754166571008 ≤ r ∧ r ≤ 8660422083433463808
    · rw [if_pos hin]
      refine ⟨?_, fun _ => ⟨?_, hfr⟩⟩
      · rw [plT_wd s (by omega) (by omega)]; rfl
      · unfold wd; rfl
    · rw [if_neg hin]
      refine ⟨?_, fun h => by cases h⟩
      rw [hfr.plain]
      have hp0 : wd s r.toNat % 9223372036854775808 ≠ 0 := by omega
      have ha := posF_abs (wd s r.toNat) hp0
      rw [hmod] at ha
      have hc := clampR_cases ((r.toNat : Nat) : Int)
      unfold plP
      apply decide_eq_false
      omega
end Go.Proofs.YtonhpkigoplmaaaGreatDoor
