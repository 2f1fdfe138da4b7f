/-
  encloselaw.UpTo: a walk over the steps of a script.
-/
import Derived.Test.YtonhpkigoplmaaaGreatDoorLawA
namespace Go.Proofs.YtonhpkigoplmaaaGreatDoor
open Go.RowKit

/-- A script's steps as they lie in memory. -/
structure Script where
  k : Nat → Int
  a : Nat → Int
  b : Nat → Int
  s : Nat → ByteArray
  xl : Nat → Nat
  xh : Nat → Nat
  yl : Nat → Nat
  yh : Nat → Nat
  po : Nat → Option Addr
  pl : Nat → Nat
  pc : Nat → Nat

/-- The i-th step as a value. -/
def Script.val (z : Script) (i : Nat) : Value := .agg #[.int .i64 (z.k i), .int .i64 (z.a i), .int .i64 (z.b i), .string (z.s i), .int .u64 (z.xl i : Int), .int .u64 (z.xh i : Int), .int .u64 (z.yl i : Int), .int .u64 (z.yh i : Int), .slice (z.po i) (z.pl i) (z.pc i)]

/-- n steps lie from an address on. -/
def Script.at (z : Script) (w : World) (g off n : Nat) : Prop :=
  ∀ i, i < n → w.cell? ⟨g, off + i * 9, none⟩ = some (.int .i64 (z.k i)) ∧ w.cell? ⟨g, off + i * 9 + 1, none⟩ = some (.int .i64 (z.a i)) ∧ w.cell? ⟨g, off + i * 9 + 2, none⟩ = some (.int .i64 (z.b i)) ∧ w.cell? ⟨g, off + i * 9 + 3, none⟩ = some (.string (z.s i)) ∧ w.cell? ⟨g, off + i * 9 + 4, none⟩ = some (.int .u64 (z.xl i : Int)) ∧ w.cell? ⟨g, off + i * 9 + 5, none⟩ = some (.int .u64 (z.xh i : Int)) ∧ w.cell? ⟨g, off + i * 9 + 6, none⟩ = some (.int .u64 (z.yl i : Int)) ∧ w.cell? ⟨g, off + i * 9 + 7, none⟩ = some (.int .u64 (z.yh i : Int)) ∧ w.cell? ⟨g, off + i * 9 + 8, none⟩ = some (.slice (z.po i) (z.pl i) (z.pc i))

set_option maxHeartbeats 1000000 in
set_option maxRecDepth 20000 in
theorem upto_any (A : Nat → Addr) (z : Script) (ao : Option Addr) (n c : Nat) (lo hi : Int) (w : World) (hn : n ≤ 1466015503701) (hS : Sents A w)
    (hz : n = 0 ∨ ∃ g off, ao = some ⟨g, off, none⟩ ∧ g < w.heap.size ∧ z.at w g off n)
    (hp : ∀ i, i < n → lo ≤ z.k i → z.k i ≤ hi → ∀ W, Sents A W → Calls Tryz.prog 18 #[z.val i] W fun e W' => e = .returned (.bool true) ∧ Below W.heap.size W W') :
    Calls Tryz.prog 14 #[.slice ao n c, .int .i64 lo, .int .i64 hi] w fun e w' => e = .returned (.int .i64 (-1)) ∧ Below w.heap.size w w' := by
  have HP : Hid (∀ i, i < n → lo ≤ z.k i → z.k i ≤ hi → ∀ W, Sents A W → Calls Tryz.prog 18 #[z.val i] W fun e W' => e = .returned (.bool true) ∧ Below W.heap.size W W') := hp
  have HZ : Hid (n = 0 ∨ ∃ g off, ao = some ⟨g, off, none⟩ ∧ g < w.heap.size ∧ z.at w g off n) := hz
  have HS : Hid (Sents A w) := hS
  clear hp hz hS
  go_enter Tryz.func14, Tryz.ntmps14
  go_wp2
  have hM0 : (n : Int) ≤ 1152921504606846976 := by omega
  generalize (1152921504606846976 : Int) = M at *
  go_loopw [7] (fun v wr => ∃ i : Nat, i ≤ n ∧ v = .int .i64 (i : Int) ∧ Below w.heap.size w wr) (fun v _ => n - (intOf v).toNat)
  case atStart => exact ⟨0, Nat.zero_le _, rfl, Below.refl _ _⟩
  case round =>
    obtain ⟨i, hi1, rfl, hbr⟩ := hrel
    by_cases hin : i < n
    · have hiM : (i : Int) < M := by omega
      obtain ⟨g, off, rfl, hg, hat⟩ := HZ.out.resolve_left (by omega)
      obtain ⟨c0, c1, c2, c3, c4, c5, c6, c7, c8⟩ := hat i hin
      rw [← hbr.cell (by exact hg)] at c0 c1 c2 c3 c4 c5 c6 c7 c8
      have HSr : Hid (Sents A wr) := HS.out.below hbr (Nat.le_refl _)
      have HPi : Hid (lo ≤ z.k i → z.k i ≤ hi → ∀ W, Sents A W → Calls Tryz.prog 18 #[z.val i] W fun e W' => e = .returned (.bool true) ∧ Below W.heap.size W W') := HP.out i hin
      have Hbr : Hid (Below w.heap.size w wr) := hbr
      unfold Script.val at HPi
      clear hat HZ HP HS hg hbr
      generalize z.k i = zk at *
      generalize z.a i = za at *
      generalize z.b i = zb at *
      generalize z.s i = zs at *
      generalize z.xl i = zxl at *
      generalize z.xh i = zxh at *
      generalize z.yl i = zyl at *
      generalize z.yh i = zyh at *
      generalize z.po i = zpo at *
      generalize z.pl i = zpl at *
      generalize z.pc i = zpc at *
      by_cases hk1 : lo ≤ zk
      · by_cases hk2 : zk ≤ hi
        · go_wp2_with fail
          have hA1 : Below wr.heap.size wr (wr.alloc (Obj.cells #[Value.int IntKind.i64 zk, Value.int IntKind.i64 za, Value.int IntKind.i64 zb, Value.string zs, Value.int IntKind.u64 ↑zxl, Value.int IntKind.u64 ↑zxh, Value.int IntKind.u64 ↑zyl, Value.int IntKind.u64 ↑zyh, Value.slice zpo zpl zpc] 31)) := (Below.refl _ _).alloc (Nat.le_refl _) _
          refine Calls.mono (HPi.out hk1 hk2 _ (HSr.out.below hA1 (Nat.le_refl _))) ?_
          rintro e w1 ⟨rfl, hb1⟩
          have Hb1 : Hid (Below w.heap.size w w1) := (Hbr.out.alloc Hbr.out.size _).trans (hb1.mono (by have := Hbr.out.size; simp; omega))
          clear hA1 hb1 HPi HSr Hbr c0 c1 c2 c3 c4 c5 c6 c7 c8
          go_wp2
          go_roundw
          case rel => exact ⟨i + 1, by omega, by go_num, Hb1.out⟩
          case measure => simp [intOf]; omega
        · clear HPi HSr
          go_wp2
          go_roundw
          case rel => exact ⟨i + 1, by omega, by go_num, Hbr.out.alloc Hbr.out.size _⟩
          case measure => simp [intOf]; omega
      · clear HPi HSr
        go_wp2
        go_roundw
        case rel => exact ⟨i + 1, by omega, by go_num, Hbr.out.alloc Hbr.out.size _⟩
        case measure => simp [intOf]; omega
    · clear HZ HP HS
      go_wp2
      go_ret
      exact ⟨rfl, hbr⟩

theorem makes_any (A : Nat → Addr) (z : Script) (ao : Option Addr) (n c : Nat) (w : World) (hn : n ≤ 1466015503701) (hS : Sents A w)
    (hz : n = 0 ∨ ∃ g off, ao = some ⟨g, off, none⟩ ∧ g < w.heap.size ∧ z.at w g off n) (hx : ∀ i, i < n → z.xl i < 18446744073709551616 ∧ z.xh i < 18446744073709551616) :
    Calls Tryz.prog 3 #[.slice ao n c] w fun e w' => e = .returned (.bool true) ∧ Below w.heap.size w w' := by
  have HU := upto_any A z ao n c 1 1 w hn hS hz (fun i hi h1 h2 W hW => by
    have hk : z.k i = 1 := by omega
    unfold Script.val
    rw [hk]
    exact plays_make A _ _ _ _ _ _ _ _ _ _ W (hx i hi).1 (hx i hi).2 hW)
  clear hz hx hS hn
  have HU : Hid (Calls Tryz.prog 14 #[.slice ao n c, .int .i64 1, .int .i64 1] w fun e w' => e = .returned (.int .i64 (-1)) ∧ Below w.heap.size w w') := HU
  go_enter Tryz.func3, Tryz.ntmps3
  go_wp2_with fail
  refine Calls.mono HU.out ?_
  rintro e w1 ⟨rfl, hb1⟩
  clear HU
  go_wp2
  go_ret
  exact ⟨rfl, hb1⟩
end Go.Proofs.YtonhpkigoplmaaaGreatDoor
