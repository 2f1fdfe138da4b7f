/-
  enclose.Make.
-/
import Derived.Test.YtonhpkigoplmaaaGreatDoorFltA
import Derived.RegionTactic
import Derived.ChangeAlike
import Derived.BigRegion
namespace Go.Proofs.YtonhpkigoplmaaaGreatDoor
open Go.RowKit Go.Extern

theorem run_store_float {P : Program} {w : World} {a : Addr} {m : Mode} (k : FloatKind) (b : Nat) : (store a (.float k b) m).run P w = stored P w a (.float k b) m := run_store P w a _ m rfl
attribute [local go_sem] run_store_float

/-- Is one plain float below another? -/
def lessW (a b : Nat) : Bool :=
  lessN ((plainN a).getD (false, 0, 0)).1 ((plainN a).getD (false, 0, 0)).2.1 ((plainN a).getD (false, 0, 0)).2.2 ((plainN b).getD (false, 0, 0)).1 ((plainN b).getD (false, 0, 0)).2.1 ((plainN b).getD (false, 0, 0)).2.2

/-- What Make gives: the ends' bits, the error's number. -/
def makeN (lo hi : Nat) : Nat × Nat × Nat :=
  if (plainN lo).isSome = false ∨ (plainN hi).isSome = false then (0, 0, 1)
  else if lessW hi lo = true then (0, 0, 2)
  else (posW lo, posW hi, 0)

/-- An error by its number. -/
def errV (A : Nat → Addr) (k : Nat) : Value := if k = 0 then .nilIface else .iface 229 (.pointer (some (A (k - 1))))

theorem order_lessW {lo hi : Nat} (h1 : lo < 18446744073709551616) (h2 : hi < 18446744073709551616) (p1 : (plainN lo).isSome = true) (p2 : (plainN hi).isSome = true) : (FloatKind.f64.format.order lo hi == some Ordering.gt) = lessW hi lo := by
  obtain ⟨⟨sa, na, ea⟩, ha⟩ := Option.isSome_iff_exists.1 p1
  obtain ⟨⟨sb, nb, eb⟩, hb⟩ := Option.isSome_iff_exists.1 p2
  have := plain_order h1 h2 ha hb
  unfold lessW
  rw [ha, hb]
  exact this

/-- What Make hands back, as values. -/
def MakeR (A : Nat → Addr) (lo hi : Nat) (w : World) (ev : Ending) (w' : World) : Prop :=
  ev = .returned (.tuple #[.agg #[.float .f64 (makeN lo hi).1, .float .f64 (makeN lo hi).2.1], errV A (makeN lo hi).2.2]) ∧ Below w.heap.size w w'

set_option maxHeartbeats 1000000 in
theorem make_any (A : Nat → Addr) (lo hi : Nat) (w : World) (h1 : lo < 18446744073709551616) (h2 : hi < 18446744073709551616) (hS : Sents A w) :
    Calls Tryz.prog 55 #[.float .f64 lo, .float .f64 hi] w fun ev w' => MakeR A lo hi w ev w' := by
  have H1 : Hid (∀ w, Calls Tryz.prog 112 #[.float .f64 lo] w fun e w' => e = .returned (.bool (plainN lo).isSome) ∧ w' = w) := fun w => isPlain_any lo w h1
  have H2 : Hid (∀ w, Calls Tryz.prog 112 #[.float .f64 hi] w fun e w' => e = .returned (.bool (plainN hi).isSome) ∧ w' = w) := fun w => isPlain_any hi w h2
  have cf : ∀ o, (w.alloc o).cell? ⟨3, 0, none⟩ = some (.iface 229 (.pointer (some (A 0)))) := fun o => (hS.alloc o).cell 0 (by omega)
  have co : ∀ o, (w.alloc o).cell? ⟨4, 0, none⟩ = some (.iface 229 (.pointer (some (A 1)))) := fun o => (hS.alloc o).cell 1 (by omega)
  clear hS
  cases p1 : (plainN lo).isSome
  · have r : Hid (makeN lo hi = (0, 0, 1)) := by show _ = _; unfold makeN; rw [if_pos (Or.inl p1)]
    rw [p1] at H1
    clear p1
    go_enter Tryz.func55, Tryz.ntmps55
    go_wp2_with fail
    refine Calls.mono (H1.out _) ?_
    rintro e w' ⟨rfl, rfl⟩
    clear H1 H2
    go_wp2_with fail
    go_region
    go_wp2
    refine bodyPost_ret (v := .tuple #[.agg #[.float .f64 0, .float .f64 0], .iface 229 (.pointer (some (A 0)))]) (by simp [results, Tryz.results55, go_sem]) rfl ?_
    unfold MakeR
    rw [r.out]
    exact ⟨rfl, ((Below.refl _ _).alloc (Nat.le_refl _) _).drew⟩
  · cases p2 : (plainN hi).isSome
    · have r : Hid (makeN lo hi = (0, 0, 1)) := by show _ = _; unfold makeN; rw [if_pos (Or.inr p2)]
      rw [p1] at H1
      rw [p2] at H2
      clear p1 p2
      go_enter Tryz.func55, Tryz.ntmps55
      go_wp2_with fail
      refine Calls.mono (H1.out _) ?_
      rintro e w' ⟨rfl, rfl⟩
      clear H1
      go_wp2_with fail
      refine Calls.mono (H2.out _) ?_
      rintro e w' ⟨rfl, rfl⟩
      clear H2
      go_wp2_with fail
      go_region
      go_wp2
      refine bodyPost_ret (v := .tuple #[.agg #[.float .f64 0, .float .f64 0], .iface 229 (.pointer (some (A 0)))]) (by simp [results, Tryz.results55, go_sem]) rfl ?_
      unfold MakeR
      rw [r.out]
      exact ⟨rfl, ((Below.refl _ _).alloc (Nat.le_refl _) _).drew⟩
    · have ho := order_lessW h1 h2 p1 p2
      have O1 : Hid (∀ w, Calls Tryz.prog 87 #[.float .f64 lo] w fun e w' => e = .returned (.float .f64 (posW lo)) ∧ w' = w) := fun w => oneZero_any lo w h1 p1
      have O2 : Hid (∀ w, Calls Tryz.prog 87 #[.float .f64 hi] w fun e w' => e = .returned (.float .f64 (posW hi)) ∧ w' = w) := fun w => oneZero_any hi w h2 p2
      have P1 : Hid ((plainN lo).isSome = true) := p1
      have P2 : Hid ((plainN hi).isSome = true) := p2
      rw [p1] at H1
      rw [p2] at H2
      clear p1 p2
      cases hl : lessW hi lo
      · have r : Hid (makeN lo hi = (posW lo, posW hi, 0)) := by show _ = _; unfold makeN; rw [if_neg (by rw [P1.out, P2.out]; simp), if_neg (by rw [hl]; simp)]
        rw [hl] at ho
        clear hl P1 P2
        go_enter Tryz.func55, Tryz.ntmps55
        go_wp2_with fail
        refine Calls.mono (H1.out _) ?_
        rintro e w' ⟨rfl, rfl⟩
        clear H1
        go_wp2_with fail
        refine Calls.mono (H2.out _) ?_
        rintro e w' ⟨rfl, rfl⟩
        clear H2
        go_wp2_with fail
        refine Calls.mono (O1.out _) ?_
        rintro e w' ⟨rfl, rfl⟩
        clear O1
        go_wp2_with fail
        refine Calls.mono (O2.out _) ?_
        rintro e w' ⟨rfl, rfl⟩
        clear O2
        go_wp2
        refine bodyPost_ret (v := .tuple #[.agg #[.float .f64 (posW lo), .float .f64 (posW hi)], .nilIface]) (by simp [results, Tryz.results55, go_sem]) rfl ?_
        unfold MakeR
        rw [r.out]
        exact ⟨rfl, (Below.refl _ _).alloc (Nat.le_refl _) _⟩
      · have r : Hid (makeN lo hi = (0, 0, 2)) := by show _ = _; unfold makeN; rw [if_neg (by rw [P1.out, P2.out]; simp), if_pos hl]
        rw [hl] at ho
        clear hl P1 P2 O1 O2
        go_enter Tryz.func55, Tryz.ntmps55
        go_wp2_with fail
        refine Calls.mono (H1.out _) ?_
        rintro e w' ⟨rfl, rfl⟩
        clear H1
        go_wp2_with fail
        refine Calls.mono (H2.out _) ?_
        rintro e w' ⟨rfl, rfl⟩
        clear H2
        go_wp2_with fail
        go_region
        go_wp2
        refine bodyPost_ret (v := .tuple #[.agg #[.float .f64 0, .float .f64 0], .iface 229 (.pointer (some (A 1)))]) (by simp [results, Tryz.results55, go_sem]) rfl ?_
        unfold MakeR
        rw [r.out]
        exact ⟨rfl, ((Below.refl _ _).alloc (Nat.le_refl _) _).drew⟩
end Go.Proofs.YtonhpkigoplmaaaGreatDoor
