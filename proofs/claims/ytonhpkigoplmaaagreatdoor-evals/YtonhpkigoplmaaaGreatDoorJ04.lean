/-
  Errs, Code, FltA, FltB, NatG.
-/
import Derived.Test.YtonhpkigoplmaaaGreatDoorProg
import Derived.WalkKit
import Derived.LaidEql
import Derived.Stop.Asserts
import Derived.RowKitTokens
import Derived.Outline
import Derived.Test.YtonhpkigoplmaaaGreatDoorJ03
import Derived.RegionTactic
import Derived.ChangeAlike
import Derived.BigRegion
import Derived.Test.YtonhpkigoplmaaaGreatDoorJ02
namespace Go.Proofs.YtonhpkigoplmaaaGreatDoor
open Go.RowKit Go.Extern.Stop Go.Stop Go.Extern

theorem rlm (z : Sem Value) (f : TypeId → Addr → Nat → Nat → Sem Value) (v : Value) :
    ReflectliteValue.method z f #[v] = (do match ← ReflectliteValue.parts v with | none => z | some (t, a, fl) => f t a fl (fl % 32)) := rfl

/-! closed facts -/
def cmpEntry : TypeId → Sem Value := fun t => do Rtype.noPackHeld "Comparable" t; pure (.bool (← typeInfo t).comparable)
theorem c_valueOfPP (t : Addr) (w : World) : (ReflectliteValue.unpack (.iface 141 (.pointer (some t)))).run Tryz.prog w
    = .ok (.agg #[.pointer (some ⟨11, 141, none⟩), .pointer (some ⟨w.heap.size, 0, none⟩), .int .u64 150]) (w.alloc (.cells #[.pointer (some t)] 141)) := by kernel_rfl
theorem c_typePP (a : Addr) (w : World) : (ReflectliteValue.methodAny (ReflectliteValue.valueError "reflectlite.Value.Type" 0) (fun t _ _ _ => ReflectliteType.toType t) #[.agg #[.pointer (some ⟨11, 141, none⟩), .pointer (some a), .int .u64 150]]).run Tryz.prog w
    = .ok (.iface 216 (.agg #[.pointer (some ⟨11, 141, none⟩)])) w := by kernel_rfl
theorem c_methodKind (h : Value) (w : World) : (Go.method 363 216 (.agg #[h]) "Kind").run Tryz.prog w = .ok (197, h) w := by kernel_rfl
theorem c_kindPP (w : World) : ((ReflectliteType.abiMethod fun t => Functor.map (fun a : Nat => Value.int IntKind.u8 (a : Int)) (Rtype.kind t)) #[.pointer (some ⟨11, 141, none⟩)]).run Tryz.prog w = .ok (.int .u8 22) w := by kernel_rfl
theorem c_kindPE (w : World) : ((ReflectliteType.abiMethod fun t => Functor.map (fun a : Nat => Value.int IntKind.u8 (a : Int)) (Rtype.kind t)) #[.pointer (some ⟨11, 136, none⟩)]).run Tryz.prog w = .ok (.int .u8 22) w := by kernel_rfl
theorem c_partsPP (a : Addr) (w : World) : (ReflectliteValue.parts (.agg #[.pointer (some ⟨11, 141, none⟩), .pointer (some a), .int .u64 150])).run Tryz.prog w = .ok (some (141, a, 150)) w := by kernel_rfl
theorem c_isNilPP (a p : Addr) (W : World) (ha : W.cell? a = some (.pointer (some p))) :
    (ReflectliteValue.method (ReflectliteValue.valueError "reflectlite.Value.IsNil" 0) ReflectliteValue.isNil #[.agg #[.pointer (some ⟨11, 141, none⟩), .pointer (some a), .int .u64 150]]).run Tryz.prog W = .ok (.bool false) W := by
  rw [rlm]
  simp only [Sem.run_bind, c_partsPP, Result.andThen]
  simp [ReflectliteValue.isNil, loadVar, isAgg, underlying, Tryz.underlying141, ha, Result.andThen]
theorem c_methodElem (h : Value) (w : World) : (Go.method 363 216 (.agg #[h]) "Elem").run Tryz.prog w = .ok (207, .agg #[h]) w := by kernel_rfl
theorem c_methodImplements (h : Value) (w : World) : (Go.method 363 216 (.agg #[h]) "Implements").run Tryz.prog w = .ok (208, .agg #[h]) w := by kernel_rfl
theorem c_methodAssignableTo (h : Value) (w : World) : (Go.method 363 216 (.agg #[h]) "AssignableTo").run Tryz.prog w = .ok (205, .agg #[h]) w := by kernel_rfl
theorem c_elemPP (w : World) : (ReflectliteType.method ReflectliteType.elem #[.agg #[.pointer (some ⟨11, 141, none⟩)]]).run Tryz.prog w = .ok (.iface 216 (.agg #[.pointer (some ⟨11, 136, none⟩)])) w := by kernel_rfl
theorem c_implementsPE (w : World) : (ReflectliteType.relation "Implements" ReflectliteType.implements_ #[.agg #[.pointer (some ⟨11, 136, none⟩)], .iface 216 (.agg #[.pointer (some ⟨11, 70, none⟩)])]).run Tryz.prog w = .ok (.bool true) w := by kernel_rfl
theorem c_typeOfES (v : Value) (w : World) : (ReflectliteType.typeOf #[.iface 229 v]).run Tryz.prog w = .ok (.iface 216 (.agg #[.pointer (some ⟨11, 229, none⟩)])) w := by kernel_rfl
theorem c_assignableES (w : World) : (ReflectliteType.relation "AssignableTo" ReflectliteType.assignableTo #[.agg #[.pointer (some ⟨11, 229, none⟩)], .iface 216 (.agg #[.pointer (some ⟨11, 136, none⟩)])]).run Tryz.prog w = .ok (.bool false) w := by kernel_rfl
theorem c_comparable (w : World) : (Extern.ReflectliteType.method cmpEntry #[.agg #[.pointer (some ⟨11, 229, none⟩)]]).run Tryz.prog w = .ok (.bool true) w := by kernel_rfl
theorem c_methodComparable (v : Value) (w : World) : (Go.method 363 216 v "Comparable").run Tryz.prog w = .ok (206, v) w := by kernel_rfl
theorem c_compES : (Tryz.prog.info? 229).map (·.comparable) = some true := by kernel_rfl
theorem c_sizeES : (Tryz.prog.info? 251).map (·.size) = some 1 := by kernel_rfl
theorem c_noAsES (v : Value) (xT : TypeId) (w : World) : (Instr.typeAssert (.iface 229 v) xT 220 true).run Tryz.prog w = .ok (.tuple #[.nilIface, .bool false]) w := run_typeAssert_lacksB Tryz.underlying220 (by kernel_rfl) (by kernel_rfl) v xT w
theorem c_noIsES (v : Value) (xT : TypeId) (w : World) : (Instr.typeAssert (.iface 229 v) xT 226 true).run Tryz.prog w = .ok (.tuple #[.nilIface, .bool false]) w := run_typeAssert_lacksB Tryz.underlying226 (by kernel_rfl) (by kernel_rfl) v xT w
theorem c_noUnwrapES (v : Value) (xT : TypeId) (w : World) : (Instr.typeAssert (.iface 229 v) xT 223 true).run Tryz.prog w = .ok (.tuple #[.nilIface, .bool false]) w := run_typeAssert_lacksB Tryz.underlying223 (by kernel_rfl) (by kernel_rfl) v xT w
theorem c_noUnwrapsES (v : Value) (xT : TypeId) (w : World) : (Instr.typeAssert (.iface 229 v) xT 224 true).run Tryz.prog w = .ok (.tuple #[.nilIface, .bool false]) w := run_typeAssert_lacksB Tryz.underlying224 (by kernel_rfl) (by kernel_rfl) v xT w

/-- errors.Is(x, x), x a pointer to an errors.errorString. -/
theorem is_same (a : Addr) (w : World) :
    Calls Tryz.prog 98 #[.iface 229 (.pointer (some a)), .iface 229 (.pointer (some a))] w fun e w' => e = .returned (.bool true) ∧ w' = w := by
  obtain ⟨i, hi, hcmp⟩ := Option.map_eq_some_iff.1 c_compES
  obtain ⟨j, hj, hjs⟩ := Option.map_eq_some_iff.1 c_sizeES
  have h8 := @run_callFunc_extern Tryz.prog 150 _ Extern.ReflectliteType.typeOf Tryz.func150 (by kernel_rfl) (by kernel_rfl) (by kernel_rfl) (by kernel_rfl)
  have h32 := @run_callFunc_extern Tryz.prog 206 _ (Extern.ReflectliteType.method cmpEntry) Tryz.func206 (by kernel_rfl) (by kernel_rfl) (by kernel_rfl) (by kernel_rfl)
  have tT := c_typeOfES
  have cT := c_comparable
  have mR := c_methodComparable
  have heq := run_eql_iface_ptr_same (P := Tryz.prog) w a Tryz.underlying70 Tryz.underlying229 hi hcmp hj
  go_enter Tryz.func98, Tryz.ntmps98
  go_wp2
  refine wp_loop_rounds 1 ?_
  rw [rounds_succ]
  go_wp2
  go_ret
  exact ⟨rfl, rfl⟩

/-- errors.Is(x, y), two different pointers to errors.errorString. -/
theorem is_other (a b : Addr) (ca cb : Array Value) (ta tb : TypeId) (w : World) (hne : a ≠ b) (ha : w.heap[a.block]? = some (.cells ca ta (0, 0))) (hb : w.heap[b.block]? = some (.cells cb tb (0, 0))) :
    Calls Tryz.prog 98 #[.iface 229 (.pointer (some a)), .iface 229 (.pointer (some b))] w fun e w' => e = .returned (.bool false) ∧ w' = w := by
  obtain ⟨i, hi, hcmp⟩ := Option.map_eq_some_iff.1 c_compES
  obtain ⟨j, hj, hjs⟩ := Option.map_eq_some_iff.1 c_sizeES
  have h8 := @run_callFunc_extern Tryz.prog 150 _ Extern.ReflectliteType.typeOf Tryz.func150 (by kernel_rfl) (by kernel_rfl) (by kernel_rfl) (by kernel_rfl)
  have h32 := @run_callFunc_extern Tryz.prog 206 _ (Extern.ReflectliteType.method cmpEntry) Tryz.func206 (by kernel_rfl) (by kernel_rfl) (by kernel_rfl) (by kernel_rfl)
  have tT := c_typeOfES
  have cT := c_comparable
  have mR := c_methodComparable
  have nE := c_noIsES
  have uE := c_noUnwrapES
  have vE := c_noUnwrapsES
  have heq := run_eql_iface_ptr_other (P := Tryz.prog) w Tryz.underlying70 Tryz.underlying229 hi hcmp hj (by rw [hjs]; decide) hne ha hb
  go_enter Tryz.func98, Tryz.ntmps98
  go_wp2
  refine wp_loop_rounds 1 ?_
  rw [rounds_succ]
  go_wp2
  go_ret
  exact ⟨rfl, rfl⟩

set_option maxHeartbeats 4000000 in
/-- errors.As(x, &o), x a pointer to an errors.errorString, o an *OpError: false; nothing that was there turns. -/
theorem as_miss (e t : Addr) (w : World) (hg : w.cell? ⟨9, 0, none⟩ = some (.iface 216 (.agg #[.pointer (some ⟨11, 70, none⟩)]))) :
    Calls Tryz.prog 96 #[.iface 229 (.pointer (some e)), .iface 141 (.pointer (some t))] w fun ev w' => ev = .returned (.bool false) ∧ Below w.heap.size w w' := by
  have h6 := @run_callFunc_extern Tryz.prog 146 _ (fun args => ReflectliteValue.unpack (args.getD 0 (.tuple #[]))) Tryz.func146 (by kernel_rfl) (by kernel_rfl) (by kernel_rfl) (by kernel_rfl)
  have h7 := @run_callFunc_extern Tryz.prog 147 _ (ReflectliteValue.methodAny (ReflectliteValue.valueError "reflectlite.Value.Type" 0) (fun t _ _ _ => ReflectliteType.toType t)) Tryz.func147 (by kernel_rfl) (by kernel_rfl) (by kernel_rfl) (by kernel_rfl)
  have h8 := @run_callFunc_extern Tryz.prog 148 _ (ReflectliteValue.method (ReflectliteValue.valueError "reflectlite.Value.IsNil" 0) ReflectliteValue.isNil) Tryz.func148 (by kernel_rfl) (by kernel_rfl) (by kernel_rfl) (by kernel_rfl)
  have h27 := @run_callFunc_extern Tryz.prog 197 _ (ReflectliteType.abiMethod fun t => do pure (.int .u8 (← Rtype.kind t))) Tryz.func197 (by kernel_rfl) (by kernel_rfl) (by kernel_rfl) (by kernel_rfl)
  have h37 := @run_callFunc_extern Tryz.prog 207 _ (ReflectliteType.method ReflectliteType.elem) Tryz.func207 (by kernel_rfl) (by kernel_rfl) (by kernel_rfl) (by kernel_rfl)
  have h38 := @run_callFunc_extern Tryz.prog 208 _ (ReflectliteType.relation "Implements" ReflectliteType.implements_) Tryz.func208 (by kernel_rfl) (by kernel_rfl) (by kernel_rfl) (by kernel_rfl)
  have h10 := @run_callFunc_extern Tryz.prog 150 _ ReflectliteType.typeOf Tryz.func150 (by kernel_rfl) (by kernel_rfl) (by kernel_rfl) (by kernel_rfl)
  have h35 := @run_callFunc_extern Tryz.prog 205 _ (ReflectliteType.relation "AssignableTo" ReflectliteType.assignableTo) Tryz.func205 (by kernel_rfl) (by kernel_rfl) (by kernel_rfl) (by kernel_rfl)
  have tO := c_typeOfES
  have mA := c_methodAssignableTo
  have a25 := c_assignableES
  have f6 := c_valueOfPP
  have f7 := c_typePP
  have mK := c_methodKind
  have mE := c_methodElem
  have mI := c_methodImplements
  have k27 := c_kindPP
  have k25 := c_kindPE
  have e27 := c_elemPP
  have i25 := c_implementsPE
  have nA := c_noAsES
  have uE := c_noUnwrapES
  have vE := c_noUnwrapsES
  have n8 := c_isNilPP ⟨w.heap.size, 0, none⟩ t ((w.alloc (.cells #[.pointer (some t)] 141)).alloc (.cells #[.pointer (some ⟨11, 141, none⟩), .pointer (some ⟨w.heap.size, 0, none⟩), .int .u64 150] 186)) (by simp)
  have hlt : 9 < w.heap.size := by
    rcases Nat.lt_or_ge 9 w.heap.size with h | h
    · exact h
    · simp [World.cell?, Array.getElem?_eq_none h] at hg
  have hg2 : ((w.alloc (.cells #[.pointer (some t)] 141)).alloc (.cells #[.pointer (some ⟨11, 141, none⟩), .pointer (some ⟨w.heap.size, 0, none⟩), .int .u64 150] 186)).cell? ⟨9, 0, none⟩ = some (.iface 216 (.agg #[.pointer (some ⟨11, 70, none⟩)])) := by
    rw [World.cell?_alloc_lt _ _ ⟨9, 0, none⟩ (by simp; omega), World.cell?_alloc_lt _ _ ⟨9, 0, none⟩ hlt]; exact hg
  go_enter Tryz.func96, Tryz.ntmps96
  go_wp2
  refine wp_loop_rounds 1 ?_
  rw [rounds_succ]
  go_wp2
  go_ret
  exact ⟨rfl, (((Below.refl _ _).alloc (Nat.le_refl _) _).alloc (by simp) _).alloc (by simp; omega) _⟩
end Go.Proofs.YtonhpkigoplmaaaGreatDoor
namespace Go.Proofs.YtonhpkigoplmaaaGreatDoor
open Go.RowKit Go.Extern.Stop Go.Stop Go.Extern

/-- Which variable the k-th error is. -/
def gix : Nat → Nat
  | 0 => 3
  | 1 => 4
  | 2 => 5
  | 3 => 1
  | 4 => 2
  | 5 => 0
  | 6 => 6
  | 7 => 7
  | _ => 8

/-- The nine errors and errors.errorType lie as the program lays them: A k is where the k-th error lies. -/
structure Sents (A : Nat → Addr) (w : World) : Prop where
  ty : w.cell? ⟨9, 0, none⟩ = some (.iface 216 (.agg #[.pointer (some ⟨11, 70, none⟩)]))
  cell : ∀ k, k < 9 → w.cell? ⟨gix k, 0, none⟩ = some (.iface 229 (.pointer (some (A k))))
  row : ∀ k, k < 9 → ∃ c t, w.heap[(A k).block]? = some (.cells c t (0, 0))
  other : ∀ j k, j < k → k < 9 → A j ≠ A k

theorem lt_of_cell {w : World} {p : Addr} {v : Value} (h : w.cell? p = some v) : p.block < w.heap.size := by
  rcases Nat.lt_or_ge p.block w.heap.size with h' | h'
  · exact h'
  · simp [World.cell?, Array.getElem?_eq_none h'] at h

theorem lt_of_row {w : World} {b : Nat} {o : Obj} (h : w.heap[b]? = some o) : b < w.heap.size := by
  rcases Nat.lt_or_ge b w.heap.size with h' | h'
  · exact h'
  · simp [Array.getElem?_eq_none h'] at h

theorem Sents.below {A : Nat → Addr} {w w' : World} {B : Nat} (h : Sents A w) (hb : Below B w w') (hB : w.heap.size ≤ B) : Sents A w' := by
  refine ⟨?_, fun k hk => ?_, fun k hk => ?_, h.other⟩
  · have := lt_of_cell h.ty
    rw [hb.cell (by simp at this ⊢; omega)]; exact h.ty
  · have := lt_of_cell (h.cell k hk)
    rw [hb.cell (by simp at this ⊢; omega)]; exact h.cell k hk
  · obtain ⟨c, t, hr⟩ := h.row k hk
    have := lt_of_row hr
    exact ⟨c, t, by rw [hb.block _ (by omega)]; exact hr⟩

theorem Sents.alloc {A : Nat → Addr} {w : World} (h : Sents A w) (o : Obj) : Sents A (w.alloc o) :=
  h.below ((Below.refl _ _).alloc (Nat.le_refl _) o) (Nat.le_refl _)

theorem code_nil (w : World) : Calls Tryz.prog 49 #[.nilIface] w fun e w' => e = .returned (.tuple #[.int .i64 0, .string ⟨#[]⟩]) ∧ w' = w := by
  go_enter Tryz.func49, Tryz.ntmps49
  go_wp2
  go_ret2
  exact ⟨rfl, rfl⟩

set_option maxHeartbeats 4000000 in
theorem code_sent (A : Nat → Addr) (w : World) (i : Nat) (hi : i < 9) (hS : Sents A w) :
    Calls Tryz.prog 49 #[.iface 229 (.pointer (some (A i)))] w fun e w' => e = .returned (.tuple #[.int .i64 (i + 1 : Nat), .string ⟨#[]⟩]) ∧ Below w.heap.size w w' := by
  go_enter Tryz.func49, Tryz.ntmps49
  go_wp2_with fail
  refine (as_miss _ _ _ (hS.alloc _).ty).mono ?_
  rintro e w1 ⟨rfl, hb1⟩
  have hS1 := (hS.alloc _).below hb1 (Nat.le_refl _)
  have hb : Below w.heap.size w w1 := ((Below.refl _ _).alloc (Nat.le_refl _) _).trans (hb1.mono (by simp))
  have c0 : w1.cell? ⟨3, 0, none⟩ = some (.iface 229 (.pointer (some (A 0)))) := hS1.cell 0 (by omega)
  have c1 : w1.cell? ⟨4, 0, none⟩ = some (.iface 229 (.pointer (some (A 1)))) := hS1.cell 1 (by omega)
  have c2 : w1.cell? ⟨5, 0, none⟩ = some (.iface 229 (.pointer (some (A 2)))) := hS1.cell 2 (by omega)
  have c3 : w1.cell? ⟨1, 0, none⟩ = some (.iface 229 (.pointer (some (A 3)))) := hS1.cell 3 (by omega)
  have c4 : w1.cell? ⟨2, 0, none⟩ = some (.iface 229 (.pointer (some (A 4)))) := hS1.cell 4 (by omega)
  have c5 : w1.cell? ⟨0, 0, none⟩ = some (.iface 229 (.pointer (some (A 5)))) := hS1.cell 5 (by omega)
  have c6 : w1.cell? ⟨6, 0, none⟩ = some (.iface 229 (.pointer (some (A 6)))) := hS1.cell 6 (by omega)
  have c7 : w1.cell? ⟨7, 0, none⟩ = some (.iface 229 (.pointer (some (A 7)))) := hS1.cell 7 (by omega)
  have c8 : w1.cell? ⟨8, 0, none⟩ = some (.iface 229 (.pointer (some (A 8)))) := hS1.cell 8 (by omega)
  clear hb1
  go_wp2_with fail
  have hS2 := hS1.alloc (Obj.cells #[Value.iface 229 (Value.pointer (some (A 0))), Value.iface 229 (Value.pointer (some (A 1))), Value.iface 229 (Value.pointer (some (A 2))), Value.iface 229 (Value.pointer (some (A 3))), Value.iface 229 (Value.pointer (some (A 4))), Value.iface 229 (Value.pointer (some (A 5))), Value.iface 229 (Value.pointer (some (A 6))), Value.iface 229 (Value.pointer (some (A 7))), Value.iface 229 (Value.pointer (some (A 8)))] 70)
  have hb2 := hb.alloc hb.size (Obj.cells #[Value.iface 229 (Value.pointer (some (A 0))), Value.iface 229 (Value.pointer (some (A 1))), Value.iface 229 (Value.pointer (some (A 2))), Value.iface 229 (Value.pointer (some (A 3))), Value.iface 229 (Value.pointer (some (A 4))), Value.iface 229 (Value.pointer (some (A 5))), Value.iface 229 (Value.pointer (some (A 6))), Value.iface 229 (Value.pointer (some (A 7))), Value.iface 229 (Value.pointer (some (A 8)))] 70)
  have hl : ∀ k, k < 9 → (w1.alloc (Obj.cells #[Value.iface 229 (Value.pointer (some (A 0))), Value.iface 229 (Value.pointer (some (A 1))), Value.iface 229 (Value.pointer (some (A 2))), Value.iface 229 (Value.pointer (some (A 3))), Value.iface 229 (Value.pointer (some (A 4))), Value.iface 229 (Value.pointer (some (A 5))), Value.iface 229 (Value.pointer (some (A 6))), Value.iface 229 (Value.pointer (some (A 7))), Value.iface 229 (Value.pointer (some (A 8)))] 70)).cell? ⟨w1.heap.size, k, none⟩ = some (.iface 229 (.pointer (some (A k)))) := by
    intro k hk
    rcases (show k = 0 ∨ k = 1 ∨ k = 2 ∨ k = 3 ∨ k = 4 ∨ k = 5 ∨ k = 6 ∨ k = 7 ∨ k = 8 by omega) with rfl | rfl | rfl | rfl | rfl | rfl | rfl | rfl | rfl <;> simp
  clear c0 c1 c2 c3 c4 c5 c6 c7 c8 hb hS1 hS
  generalize (w1.alloc (Obj.cells #[Value.iface 229 (Value.pointer (some (A 0))), Value.iface 229 (Value.pointer (some (A 1))), Value.iface 229 (Value.pointer (some (A 2))), Value.iface 229 (Value.pointer (some (A 3))), Value.iface 229 (Value.pointer (some (A 4))), Value.iface 229 (Value.pointer (some (A 5))), Value.iface 229 (Value.pointer (some (A 6))), Value.iface 229 (Value.pointer (some (A 7))), Value.iface 229 (Value.pointer (some (A 8)))] 70)) = W2 at *
  go_loop [38] (fun v => ∃ k : Nat, k ≤ i ∧ v = .int .i64 k) (fun v => 9 - (intOf v).toNat)
  case atStart => exact ⟨0, Nat.zero_le _, rfl⟩
  case round =>
    obtain ⟨k, hk, rfl⟩ := hrel
    have hck := hl k (by omega)
    have hk9 : k < 9 := by omega
    clear hl
    by_cases hki : k = i
    · subst hki
      go_wp2_with fail
      refine (is_same _ _).mono ?_
      rintro e w' ⟨rfl, rfl⟩
      go_wp2_with fail
      go_ret2
      exact ⟨by go_num, hb2⟩
    · obtain ⟨ca, ta, hra⟩ := hS2.row i hi
      obtain ⟨cb, tb, hrb⟩ := hS2.row k hk9
      have hne : A i ≠ A k := fun h => hS2.other k i (by omega) hi h.symm
      go_wp2_with fail
      refine (is_other _ _ ca cb ta tb _ hne hra hrb).mono ?_
      rintro e w' ⟨rfl, rfl⟩
      go_wp2_with fail
      go_round
      case rel => exact ⟨k + 1, by omega, by go_num⟩
      case measure => simp [intOf]; omega
end Go.Proofs.YtonhpkigoplmaaaGreatDoor
namespace Go.Proofs.YtonhpkigoplmaaaGreatDoor
open Go.RowKit Go.Extern

theorem c_bits (b : Nat) (w : World) : (MathFloatBits.float64bits #[.float .f64 b]).run Tryz.prog w = .ok (.int .u64 (b : Int)) w := by kernel_rfl
theorem c_from (b : Nat) (w : World) : (MathFloatBits.float64frombits #[.int .u64 (b : Int)]).run Tryz.prog w = .ok (.float .f64 b) w := by kernel_rfl

theorem abs_word (b : Nat) (hb : b < 18446744073709551616) : bits .andNot .u64 (b : Int) 9223372036854775808 = ((b % 9223372036854775808 : Nat) : Int) := by
  have h := u64_andNot_nat b 9223372036854775808 hb (by decide)
  have e2 : ((9223372036854775808 : Nat) : Int) = 9223372036854775808 := rfl
  rw [e2] at h
  rw [h]
  have e3 : 18446744073709551615 - 9223372036854775808 = 9223372036854775807 := by decide
  rw [e3]
  have : b &&& 9223372036854775807 = b % 9223372036854775808 := Nat.and_two_pow_sub_one_eq_mod _ 63
  rw [this]

theorem float_any (b : Nat) (w : World) : Calls Tryz.prog 56 #[.int .u64 (b : Int)] w fun e w' => e = .returned (.float .f64 b) ∧ w' = w := by
  have h93 := @run_callFunc_extern Tryz.prog 113 _ MathFloatBits.float64frombits Tryz.func113 (by kernel_rfl) (by kernel_rfl) (by kernel_rfl) (by kernel_rfl)
  have cf := c_from
  go_enter Tryz.func56, Tryz.ntmps56
  go_wp2
  go_ret
  exact ⟨rfl, rfl⟩

theorem abs_any (b : Nat) (w : World) (hb : b < 18446744073709551616) : Calls Tryz.prog 160 #[.float .f64 b] w fun e w' => e = .returned (.float .f64 (b % 9223372036854775808)) ∧ w' = w := by
  have h89 := @run_callFunc_extern Tryz.prog 99 _ MathFloatBits.float64bits Tryz.func99 (by kernel_rfl) (by kernel_rfl) (by kernel_rfl) (by kernel_rfl)
  have h93 := @run_callFunc_extern Tryz.prog 113 _ MathFloatBits.float64frombits Tryz.func113 (by kernel_rfl) (by kernel_rfl) (by kernel_rfl) (by kernel_rfl)
  have cb := c_bits
  have ha := abs_word b hb
  have cf := c_from (b % 9223372036854775808)
  generalize hr : b % 9223372036854775808 = r at *
  clear hr hb
  go_enter Tryz.func160, Tryz.ntmps160
  go_wp2
  go_ret
  exact ⟨rfl, rfl⟩

theorem isPlain_any (b : Nat) (w : World) (hb : b < 18446744073709551616) : Calls Tryz.prog 112 #[.float .f64 b] w fun e w' => e = .returned (.bool (plainN b).isSome) ∧ w' = w := by
  have hp := isPlainB_eq hb
  rw [← hp]
  have HA : Hid (Calls Tryz.prog 160 #[.float .f64 b] w fun e w' => e = .returned (.float .f64 (b % 9223372036854775808)) ∧ w' = w) := abs_any b w hb
  clear hp hb
  generalize b % 9223372036854775808 = r at *
  have HP : ∀ b0 b1 b2, (FloatKind.f64.format.order r 0 == some Ordering.eq) = b0 → (FloatKind.f64.format.order r 553942754166571008 == some Ordering.gt || FloatKind.f64.format.order r 553942754166571008 == some Ordering.eq) = b1 → (FloatKind.f64.format.order r 8660422083433463808 == some Ordering.lt || FloatKind.f64.format.order r 8660422083433463808 == some Ordering.eq) = b2 → Hid (isPlainB r = (b0 || (b1 && b2))) := by
    intro b0 b1 b2 h0 h1 h2
    subst h0 h1 h2
    rfl
  generalize hb0 : (FloatKind.f64.format.order r 0 == some Ordering.eq) = b0 at *
  generalize hb1 : (FloatKind.f64.format.order r 553942754166571008 == some Ordering.gt || FloatKind.f64.format.order r 553942754166571008 == some Ordering.eq) = b1 at *
  generalize hb2 : (FloatKind.f64.format.order r 8660422083433463808 == some Ordering.lt || FloatKind.f64.format.order r 8660422083433463808 == some Ordering.eq) = b2 at *
  have HP := HP b0 b1 b2 rfl rfl rfl
  cases b0 <;> cases b1 <;> cases b2
  all_goals
    go_enter Tryz.func112, Tryz.ntmps112
    go_wp2_with fail
    refine Calls.mono HA.out ?_
    rintro e w' ⟨rfl, rfl⟩
    clear HA
    go_wp2
    go_ret
    rw [HP.out]
    exact ⟨rfl, rfl⟩

/-- A float's word without a sign at 0. -/
def posW (b : Nat) : Nat := if b % 9223372036854775808 = 0 then 0 else b

theorem plain_eq_zero {b : Nat} (hb : b < 18446744073709551616) (hp : (plainN b).isSome = true) : (FloatKind.f64.format.order b 0 == some Ordering.eq) = decide (b % 9223372036854775808 = 0) := by
  obtain ⟨⟨s, n, e⟩, h⟩ := Option.isSome_iff_exists.1 hp
  show (Ieee.double.order b 0 == some Ordering.eq) = _
  unfold Ieee.Format.order
  have h0 : Ieee.double.read 0 = .number false 0 (-1074) := rfl
  rw [h0]
  rcases plain_read hb h with ⟨rfl, rfl, hz, s', hr⟩ | ⟨hn, hr⟩
  · rw [hr]
    simp only [Ieee.Datum.order, signed_eq, Nat.zero_mul, sg_zero, hz]
    rw [cmp_eq' rfl]; rfl
  · rw [hr]
    simp only [Ieee.Datum.order, signed_eq, Nat.zero_mul, sg_zero]
    have hne : b % 9223372036854775808 ≠ 0 := by
      intro hz
      have : plainN b = some (false, 0, 0) := by
        unfold plainN
        rw [if_pos (by omega)]
      rw [this] at h
      simp at h
      omega
    have hpos : 0 < n * 2 ^ (e - min e (-1074)).toNat := Nat.mul_pos hn (Nat.two_pow_pos _)
    generalize n * 2 ^ (e - min e (-1074)).toNat = m at *
    cases s
    · rw [cmp_gt' (by simp [sg]; omega)]; simp [hne]
    · rw [cmp_lt' (by simp [sg]; omega)]; simp [hne]

theorem oneZero_any (b : Nat) (w : World) (hb : b < 18446744073709551616) (hp : (plainN b).isSome = true) : Calls Tryz.prog 87 #[.float .f64 b] w fun e w' => e = .returned (.float .f64 (posW b)) ∧ w' = w := by
  have he := plain_eq_zero hb hp
  clear hp hb
  by_cases hz : b % 9223372036854775808 = 0
  · have r : posW b = 0 := by unfold posW; rw [if_pos hz]
    rw [r]
    rw [decide_eq_true hz] at he
    clear hz r
    go_enter Tryz.func87, Tryz.ntmps87
    go_wp2
    go_ret
    exact ⟨rfl, rfl⟩
  · have r : posW b = b := by unfold posW; rw [if_neg hz]
    rw [r]
    rw [decide_eq_false hz] at he
    clear hz r
    go_enter Tryz.func87, Tryz.ntmps87
    go_wp2
    go_ret
    exact ⟨rfl, rfl⟩
end Go.Proofs.YtonhpkigoplmaaaGreatDoor
namespace Go.Proofs.YtonhpkigoplmaaaGreatDoor
open Go.RowKit Go.Extern

theorem run_store_float {P : Program} {w : World} {a : Addr} {m : Mode} (k : FloatKind) (b : Nat) : (store a (.float k b) m).run P w = stored P w a (.float k b) m := run_store P w a _ m rfl
attribute [local go_sem] run_store_float

/-- Is one plain float below another? -/
def lessW (a b : Nat) : Bool :=
  lessN ((plainN a).getD (false, 0, 0)).1 ((plainN a).getD (false, 0, 0)).2.1 ((plainN a).getD (false, 0, 0)).2.2 ((plainN b).getD (false, 0, 0)).1 ((plainN b).getD (false, 0, 0)).2.1 ((plainN b).getD (false, 0, 0)).2.2

/-- What Make gives: the ends' bits, the error's number. -/
def makeN (lo hi : Nat) : Nat × Nat × Nat :=
  if (plainN lo).isSome = false ∨ (plainN hi).isSome = false then (0, 0, 1)
  else if lessW hi lo = true then (0, 0, 2)
  else (posW lo, posW hi, 0)

/-- An error by its number. -/
def errV (A : Nat → Addr) (k : Nat) : Value := if k = 0 then .nilIface else .iface 229 (.pointer (some (A (k - 1))))

theorem order_lessW {lo hi : Nat} (h1 : lo < 18446744073709551616) (h2 : hi < 18446744073709551616) (p1 : (plainN lo).isSome = true) (p2 : (plainN hi).isSome = true) : (FloatKind.f64.format.order lo hi == some Ordering.gt) = lessW hi lo := by
  obtain ⟨⟨sa, na, ea⟩, ha⟩ := Option.isSome_iff_exists.1 p1
  obtain ⟨⟨sb, nb, eb⟩, hb⟩ := Option.isSome_iff_exists.1 p2
  have := plain_order h1 h2 ha hb
  unfold lessW
  rw [ha, hb]
  exact this

/-- What Make hands back, as values. -/
def MakeR (A : Nat → Addr) (lo hi : Nat) (w : World) (ev : Ending) (w' : World) : Prop :=
  ev = .returned (.tuple #[.agg #[.float .f64 (makeN lo hi).1, .float .f64 (makeN lo hi).2.1], errV A (makeN lo hi).2.2]) ∧ Below w.heap.size w w'

set_option maxHeartbeats 1000000 in
theorem make_any (A : Nat → Addr) (lo hi : Nat) (w : World) (h1 : lo < 18446744073709551616) (h2 : hi < 18446744073709551616) (hS : Sents A w) :
    Calls Tryz.prog 55 #[.float .f64 lo, .float .f64 hi] w fun ev w' => MakeR A lo hi w ev w' := by
  have H1 : Hid (∀ w, Calls Tryz.prog 112 #[.float .f64 lo] w fun e w' => e = .returned (.bool (plainN lo).isSome) ∧ w' = w) := fun w => isPlain_any lo w h1
  have H2 : Hid (∀ w, Calls Tryz.prog 112 #[.float .f64 hi] w fun e w' => e = .returned (.bool (plainN hi).isSome) ∧ w' = w) := fun w => isPlain_any hi w h2
  have cf : ∀ o, (w.alloc o).cell? ⟨3, 0, none⟩ = some (.iface 229 (.pointer (some (A 0)))) := fun o => (hS.alloc o).cell 0 (by omega)
  have co : ∀ o, (w.alloc o).cell? ⟨4, 0, none⟩ = some (.iface 229 (.pointer (some (A 1)))) := fun o => (hS.alloc o).cell 1 (by omega)
  clear hS
  cases p1 : (plainN lo).isSome
  · have r : Hid (makeN lo hi = (0, 0, 1)) := by show _ = _; unfold makeN; rw [if_pos (Or.inl p1)]
    rw [p1] at H1
    clear p1
    go_enter Tryz.func55, Tryz.ntmps55
    go_wp2_with fail
    refine Calls.mono (H1.out _) ?_
    rintro e w' ⟨rfl, rfl⟩
    clear H1 H2
    go_wp2_with fail
    go_region
    go_wp2
    refine bodyPost_ret (v := .tuple #[.agg #[.float .f64 0, .float .f64 0], .iface 229 (.pointer (some (A 0)))]) (by simp [results, Tryz.results55, go_sem]) rfl ?_
    unfold MakeR
    rw [r.out]
    exact ⟨rfl, ((Below.refl _ _).alloc (Nat.le_refl _) _).drew⟩
  · cases p2 : (plainN hi).isSome
    · have r : Hid (makeN lo hi = (0, 0, 1)) := by show _ = _; unfold makeN; rw [if_pos (Or.inr p2)]
      rw [p1] at H1
      rw [p2] at H2
      clear p1 p2
      go_enter Tryz.func55, Tryz.ntmps55
      go_wp2_with fail
      refine Calls.mono (H1.out _) ?_
      rintro e w' ⟨rfl, rfl⟩
      clear H1
      go_wp2_with fail
      refine Calls.mono (H2.out _) ?_
      rintro e w' ⟨rfl, rfl⟩
      clear H2
      go_wp2_with fail
      go_region
      go_wp2
      refine bodyPost_ret (v := .tuple #[.agg #[.float .f64 0, .float .f64 0], .iface 229 (.pointer (some (A 0)))]) (by simp [results, Tryz.results55, go_sem]) rfl ?_
      unfold MakeR
      rw [r.out]
      exact ⟨rfl, ((Below.refl _ _).alloc (Nat.le_refl _) _).drew⟩
    · have ho := order_lessW h1 h2 p1 p2
      have O1 : Hid (∀ w, Calls Tryz.prog 87 #[.float .f64 lo] w fun e w' => e = .returned (.float .f64 (posW lo)) ∧ w' = w) := fun w => oneZero_any lo w h1 p1
      have O2 : Hid (∀ w, Calls Tryz.prog 87 #[.float .f64 hi] w fun e w' => e = .returned (.float .f64 (posW hi)) ∧ w' = w) := fun w => oneZero_any hi w h2 p2
      have P1 : Hid ((plainN lo).isSome = true) := p1
      have P2 : Hid ((plainN hi).isSome = true) := p2
      rw [p1] at H1
      rw [p2] at H2
      clear p1 p2
      cases hl : lessW hi lo
      · have r : Hid (makeN lo hi = (posW lo, posW hi, 0)) := by show _ = _; unfold makeN; rw [if_neg (by rw [P1.out, P2.out]; simp), if_neg (by rw [hl]; simp)]
        rw [hl] at ho
        clear hl P1 P2
        go_enter Tryz.func55, Tryz.ntmps55
        go_wp2_with fail
        refine Calls.mono (H1.out _) ?_
        rintro e w' ⟨rfl, rfl⟩
        clear H1
        go_wp2_with fail
        refine Calls.mono (H2.out _) ?_
        rintro e w' ⟨rfl, rfl⟩
        clear H2
        go_wp2_with fail
        refine Calls.mono (O1.out _) ?_
        rintro e w' ⟨rfl, rfl⟩
        clear O1
        go_wp2_with fail
        refine Calls.mono (O2.out _) ?_
        rintro e w' ⟨rfl, rfl⟩
        clear O2
        go_wp2
        refine bodyPost_ret (v := .tuple #[.agg #[.float .f64 (posW lo), .float .f64 (posW hi)], .nilIface]) (by simp [results, Tryz.results55, go_sem]) rfl ?_
        unfold MakeR
        rw [r.out]
        exact ⟨rfl, (Below.refl _ _).alloc (Nat.le_refl _) _⟩
      · have r : Hid (makeN lo hi = (0, 0, 2)) := by show _ = _; unfold makeN; rw [if_neg (by rw [P1.out, P2.out]; simp), if_pos hl]
        rw [hl] at ho
        clear hl P1 P2 O1 O2
        go_enter Tryz.func55, Tryz.ntmps55
        go_wp2_with fail
        refine Calls.mono (H1.out _) ?_
        rintro e w' ⟨rfl, rfl⟩
        clear H1
        go_wp2_with fail
        refine Calls.mono (H2.out _) ?_
        rintro e w' ⟨rfl, rfl⟩
        clear H2
        go_wp2_with fail
        go_region
        go_wp2
        refine bodyPost_ret (v := .tuple #[.agg #[.float .f64 0, .float .f64 0], .iface 229 (.pointer (some (A 1)))]) (by simp [results, Tryz.results55, go_sem]) rfl ?_
        unfold MakeR
        rw [r.out]
        exact ⟨rfl, ((Below.refl _ _).alloc (Nat.le_refl _) _).drew⟩
end Go.Proofs.YtonhpkigoplmaaaGreatDoor
namespace Go.Proofs.YtonhpkigoplmaaaGreatDoor
open Go.RowKit

/-- How many bits a number has. -/
def bl (n : Nat) : Nat := if n = 0 then 0 else n.log2 + 1

theorem bl_zero : bl 0 = 0 := rfl
theorem bl_bounds {n : Nat} (h : 0 < n) : 2 ^ (bl n - 1) ≤ n ∧ n < 2 ^ bl n ∧ 0 < bl n := by
  have hn : n ≠ 0 := by omega
  unfold bl
  rw [if_neg hn]
  exact ⟨by simpa using Nat.log2_self_le hn, Nat.lt_log2_self, by omega⟩

theorem bl_unique {n k : Nat} (h1 : 2 ^ k ≤ n) (h2 : n < 2 ^ (k + 1)) : bl n = k + 1 := by
  have hn : 0 < n := Nat.lt_of_lt_of_le (Nat.two_pow_pos k) h1
  obtain ⟨b1, b2, b3⟩ := bl_bounds hn
  have c1 : 2 ^ (bl n - 1) < 2 ^ (k + 1) := Nat.lt_of_le_of_lt b1 h2
  have c2 : 2 ^ k < 2 ^ bl n := Nat.lt_of_le_of_lt h1 b2
  have d1 := (Nat.pow_lt_pow_iff_right (by decide : 1 < 2)).1 c1
  have d2 := (Nat.pow_lt_pow_iff_right (by decide : 1 < 2)).1 c2
  omega

theorem bl_half {t : Nat} (h : 0 < t) : bl (t / 2) + 1 = bl t := by
  rcases Nat.lt_or_ge t 2 with h2 | h2
  · have : t = 1 := by omega
    subst this; rfl
  · obtain ⟨b1, b2, b3⟩ := bl_bounds (show 0 < t / 2 by omega)
    have e : bl (t / 2) = (bl (t / 2) - 1) + 1 := by omega
    have k1 : 2 ^ bl (t / 2) = 2 ^ (bl (t / 2) - 1) * 2 := by rw [← Nat.pow_succ]; congr 1
    have := bl_unique (n := t) (k := bl (t / 2)) (by omega) (by rw [Nat.pow_succ]; omega)
    omega

theorem bl_top {l : List Nat} {L : Nat} (hl : l.length = L + 1) (hd : ∀ d ∈ l, d < 16777216) (hpos : 0 < l.getD L 0) : bl (nval l) = 24 * L + bl (l.getD L 0) := by
  have hs := nval_split l L (by omega)
  have hdrop : l.drop (L + 1) = [] := List.drop_eq_nil_of_le (by omega)
  rw [hdrop] at hs
  simp only [nval, Nat.mul_zero, Nat.add_zero] at hs
  have hlow := nval_lt (l.take L) (fun d hm => hd d (List.mem_of_mem_take hm))
  have hll : (l.take L).length = L := by simp; omega
  rw [hll] at hlow
  have e24 : (16777216 : Nat) = 2 ^ 24 := rfl
  rw [e24, ← Nat.pow_mul] at hs hlow
  obtain ⟨b1, b2, b3⟩ := bl_bounds hpos
  generalize l.getD L 0 = d at *
  have h1 : 2 ^ (24 * L) * 2 ^ (bl d - 1) ≤ 2 ^ (24 * L) * d := Nat.mul_le_mul_left _ b1
  have h2 : 2 ^ (24 * L) * (d + 1) ≤ 2 ^ (24 * L) * 2 ^ bl d := Nat.mul_le_mul_left _ b2
  rw [← Nat.pow_add] at h1 h2
  rw [Nat.mul_add, Nat.mul_one] at h2
  have := bl_unique (n := nval l) (k := 24 * L + (bl d - 1)) (by omega) (by
    rw [show 24 * L + (bl d - 1) + 1 = 24 * L + bl d by omega]; omega)
  omega

set_option maxRecDepth 100000 in
theorem size_any (a : Nat) (va : Value) (w : World) (ha : NatV w va a) (hla : (digits a).length ≤ 1000000) :
    Calls Tryz.prog 161 #[va] w fun e w' => e = .returned (.int .i64 (bl a : Int)) ∧ w' = w := by
  obtain ⟨ao, ca, rfl, hca, hcell⟩ := Dig.open ha
  by_cases h0 : a = 0
  · subst h0
    rw [digits_zero]
    clear hcell ha hla hca
    go_enter Tryz.func161, Tryz.ntmps161
    go_wp2
    go_ret
    exact ⟨rfl, rfl⟩
  · have hne : (digits a).length ≠ 0 := fun e => h0 ((digits_nil_iff a).1 (List.length_eq_zero_iff.1 e))
    obtain ⟨b, off, rfl, hbl, hc⟩ := hcell.resolve_left hne
    obtain ⟨L, hL⟩ : ∃ L, (digits a).length = L + 1 := ⟨(digits a).length - 1, by omega⟩
    have hlast := canon_last (canon_digits a) hL
    have htop := bl_top hL (digits_lt a) (by omega)
    rw [nval_digits] at htop
    have hcl := hc L (by omega)
    have hdl := getD_lt (digits_lt a) L
    rw [hL] at hla hca ⊢
    clear hc ha hL hne
    generalize (digits a).getD L 0 = d at *
    have HT : Hid (bl a = 24 * L + bl d) := htop
    have t0 : (((L + 1 : Nat) : Int) == 0) = false := by simp; omega
    clear htop
    go_enter Tryz.func161, Tryz.ntmps161
    go_wp2
    go_loop [3, 4] (fun v3 v4 => ∃ t j : Nat, t ≤ d ∧ v4 = .int .i64 (t : Int) ∧ v3 = .int .i64 ((24 * L + j : Nat) : Int) ∧ bl t + j = bl d ∧ j ≤ 30) (fun _ v4 => (intOf v4).toNat)
    case atStart =>
      refine ⟨d, 0, Nat.le_refl _, rfl, by go_num, by omega, by omega⟩
    case round =>
      obtain ⟨t, j, ht, rfl, rfl, hb, hj⟩ := hrel
      have HB : Hid (bl t + j = bl d) := hb
      clear hb
      by_cases htp : 0 < t
      · have hj2 : j + 1 ≤ 30 := by
          have h1 := HB.out
          obtain ⟨b1, b2, b3⟩ := bl_bounds (show 0 < d by omega)
          have : 2 ^ (bl d - 1) < 2 ^ 24 := Nat.lt_of_le_of_lt b1 hdl
          have := (Nat.pow_lt_pow_iff_right (by decide : 1 < 2)).1 this
          obtain ⟨_, _, c3⟩ := bl_bounds htp
          omega
        go_wp2
        go_round
        case rel => exact ⟨t / 2, j + 1, by omega, by go_num, by go_num, by have := bl_half htp; have := HB.out; omega, hj2⟩
        case measure => simp [intOf]; omega
      · have ht0 : t = 0 := by omega
        subst ht0
        go_wp2
        go_ret
        have := HB.out
        rw [bl_zero] at this
        rw [HT.out, show 24 * L + bl d = 24 * L + j by omega]
        exact ⟨rfl, rfl⟩
end Go.Proofs.YtonhpkigoplmaaaGreatDoor
