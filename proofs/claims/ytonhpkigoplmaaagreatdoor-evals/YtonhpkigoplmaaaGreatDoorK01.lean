/-
  ApR, ApF.
-/
import Derived.Test.YtonhpkigoplmaaaGreatDoorJ18
import Derived.Test.YtonhpkigoplmaaaGreatDoorJ19
namespace Go.Proofs.YtonhpkigoplmaaaGreatDoor
open Go.RowKit

set_option maxHeartbeats 4000000 in
set_option maxRecDepth 100000 in
theorem refApply_hull (s : ByteArray) (xl xh yl yh : Nat) (r1 r2 r3 : Nat) (rs : ByteArray) (w : World) (hs : s.toList = [104, 117, 108, 108]) (hr : ∀ W, Calls Tryz.prog 29 #[.int .i64 1, .agg #[.int .u64 (xl : Int), .int .u64 (xh : Int)], .agg #[.int .u64 (yl : Int), .int .u64 (yh : Int)]] W fun e w' => e = .returned (.tuple #[.agg #[.int .u64 (r1 : Int), .int .u64 (r2 : Int)], .int .i64 (r3 : Int), .string rs]) ∧ Below W.heap.size W w') :
    Calls Tryz.prog 31 #[.string s, .agg #[.int .u64 (xl : Int), .int .u64 (xh : Int)], .agg #[.int .u64 (yl : Int), .int .u64 (yh : Int)]] w fun e w' => e = .returned (.tuple #[.agg #[.int .u64 (r1 : Int), .int .u64 (r2 : Int)], .int .i64 (r3 : Int), .string rs]) ∧ Below w.heap.size w w' := by
  have HR : Hid (∀ W, Calls Tryz.prog 29 #[.int .i64 1, .agg #[.int .u64 (xl : Int), .int .u64 (xh : Int)], .agg #[.int .u64 (yl : Int), .int .u64 (yh : Int)]] W fun e w' => e = .returned (.tuple #[.agg #[.int .u64 (r1 : Int), .int .u64 (r2 : Int)], .int .i64 (r3 : Int), .string rs]) ∧ Below W.heap.size W w') := hr
  have e0 : ([104, 117, 108, 108] == s.toList) = true := by rw [hs]; rfl
  have e1 : ([109, 101, 101, 116] == s.toList) = false := by rw [hs]; rfl
  have e2 : ([43] == s.toList) = false := by rw [hs]; rfl
  have e3 : ([45] == s.toList) = false := by rw [hs]; rfl
  have e4 : ([42] == s.toList) = false := by rw [hs]; rfl
  have e5 : ([47] == s.toList) = false := by rw [hs]; rfl
  clear hr hs
  go_enter Tryz.func31, Tryz.ntmps31
  go_wp2_with fail
  refine wp_loop_rounds 7 ?_
  rw [rounds_succ]
  go_wp2_with fail
  have B2 := blk_old (blk_new ((w.alloc (Obj.cells #[.int .u64 (xl : Int), .int .u64 (xh : Int)] 28)).alloc (Obj.cells #[.int .u64 (yl : Int), .int .u64 (yh : Int)] 28)) (Obj.cells #[.int .u64 0, .int .u64 0] 28)) (Obj.cells #[.string ⟨#[]⟩, .string ⟨#[104, 117, 108, 108]⟩, .string ⟨#[109, 101, 101, 116]⟩, .string ⟨#[43]⟩, .string ⟨#[45]⟩, .string ⟨#[42]⟩, .string ⟨#[47]⟩] 9)
  have hW : Below w.heap.size w ((((w.alloc (Obj.cells #[.int .u64 (xl : Int), .int .u64 (xh : Int)] 28)).alloc (Obj.cells #[.int .u64 (yl : Int), .int .u64 (yh : Int)] 28)).alloc (Obj.cells #[.int .u64 0, .int .u64 0] 28)).alloc (Obj.cells #[.string ⟨#[]⟩, .string ⟨#[104, 117, 108, 108]⟩, .string ⟨#[109, 101, 101, 116]⟩, .string ⟨#[43]⟩, .string ⟨#[45]⟩, .string ⟨#[42]⟩, .string ⟨#[47]⟩] 9)) := ((((Below.refl _ _).alloc (Nat.le_refl _) _).alloc (by simp) _).alloc (by simp; omega) _).alloc (by simp; omega) _
  simp only [World.size_alloc] at B2
  generalize ((((w.alloc (Obj.cells #[.int .u64 (xl : Int), .int .u64 (xh : Int)] 28)).alloc (Obj.cells #[.int .u64 (yl : Int), .int .u64 (yh : Int)] 28)).alloc (Obj.cells #[.int .u64 0, .int .u64 0] 28)).alloc (Obj.cells #[.string ⟨#[]⟩, .string ⟨#[104, 117, 108, 108]⟩, .string ⟨#[109, 101, 101, 116]⟩, .string ⟨#[43]⟩, .string ⟨#[45]⟩, .string ⟨#[42]⟩, .string ⟨#[47]⟩] 9)) = W2 at *
  refine Calls.mono (HR.out _) ?_
  rintro ev w9 ⟨rfl, hb9⟩
  have HK : Hid (w9.heap[w.heap.size + 1 + 1]? = _) := blk_below B2 hb9
  have HB : Hid (Below w.heap.size w w9) := hW.trans (hb9.mono hW.size)
  clear hb9 hW B2 HR
  obtain ⟨q0, q1, q2, q3⟩ := blk2 HK.out
  go_wp2_with fail
  obtain ⟨p0, p1, -, -⟩ := blk2 (blk_store2 (a := .int .u64 (r1 : Int)) (b := .int .u64 (r2 : Int)) HK.out)
  refine bodyPost_ret (v := .tuple #[.agg #[.int .u64 (r1 : Int), .int .u64 (r2 : Int)], .int .i64 (r3 : Int), .string rs]) (by simp [results, Tryz.results31, go_sem, p0, p1]) rfl ?_
  exact ⟨rfl, (HB.out.setCell (by simp; omega) _).setCell (by simp; omega) _⟩

set_option maxHeartbeats 4000000 in
set_option maxRecDepth 100000 in
theorem refApply_meet (s : ByteArray) (xl xh yl yh : Nat) (r1 r2 r3 : Nat) (rs : ByteArray) (w : World) (hs : s.toList = [109, 101, 101, 116]) (hr : ∀ W, Calls Tryz.prog 29 #[.int .i64 2, .agg #[.int .u64 (xl : Int), .int .u64 (xh : Int)], .agg #[.int .u64 (yl : Int), .int .u64 (yh : Int)]] W fun e w' => e = .returned (.tuple #[.agg #[.int .u64 (r1 : Int), .int .u64 (r2 : Int)], .int .i64 (r3 : Int), .string rs]) ∧ Below W.heap.size W w') :
    Calls Tryz.prog 31 #[.string s, .agg #[.int .u64 (xl : Int), .int .u64 (xh : Int)], .agg #[.int .u64 (yl : Int), .int .u64 (yh : Int)]] w fun e w' => e = .returned (.tuple #[.agg #[.int .u64 (r1 : Int), .int .u64 (r2 : Int)], .int .i64 (r3 : Int), .string rs]) ∧ Below w.heap.size w w' := by
  have HR : Hid (∀ W, Calls Tryz.prog 29 #[.int .i64 2, .agg #[.int .u64 (xl : Int), .int .u64 (xh : Int)], .agg #[.int .u64 (yl : Int), .int .u64 (yh : Int)]] W fun e w' => e = .returned (.tuple #[.agg #[.int .u64 (r1 : Int), .int .u64 (r2 : Int)], .int .i64 (r3 : Int), .string rs]) ∧ Below W.heap.size W w') := hr
  have e0 : ([104, 117, 108, 108] == s.toList) = false := by rw [hs]; rfl
  have e1 : ([109, 101, 101, 116] == s.toList) = true := by rw [hs]; rfl
  have e2 : ([43] == s.toList) = false := by rw [hs]; rfl
  have e3 : ([45] == s.toList) = false := by rw [hs]; rfl
  have e4 : ([42] == s.toList) = false := by rw [hs]; rfl
  have e5 : ([47] == s.toList) = false := by rw [hs]; rfl
  clear hr hs
  go_enter Tryz.func31, Tryz.ntmps31
  go_wp2_with fail
  refine wp_loop_rounds 7 ?_
  rw [rounds_succ]
  go_wp2_with fail
  rw [rounds_succ]
  go_wp2_with fail
  have B2 := blk_old (blk_new ((w.alloc (Obj.cells #[.int .u64 (xl : Int), .int .u64 (xh : Int)] 28)).alloc (Obj.cells #[.int .u64 (yl : Int), .int .u64 (yh : Int)] 28)) (Obj.cells #[.int .u64 0, .int .u64 0] 28)) (Obj.cells #[.string ⟨#[]⟩, .string ⟨#[104, 117, 108, 108]⟩, .string ⟨#[109, 101, 101, 116]⟩, .string ⟨#[43]⟩, .string ⟨#[45]⟩, .string ⟨#[42]⟩, .string ⟨#[47]⟩] 9)
  have hW : Below w.heap.size w ((((w.alloc (Obj.cells #[.int .u64 (xl : Int), .int .u64 (xh : Int)] 28)).alloc (Obj.cells #[.int .u64 (yl : Int), .int .u64 (yh : Int)] 28)).alloc (Obj.cells #[.int .u64 0, .int .u64 0] 28)).alloc (Obj.cells #[.string ⟨#[]⟩, .string ⟨#[104, 117, 108, 108]⟩, .string ⟨#[109, 101, 101, 116]⟩, .string ⟨#[43]⟩, .string ⟨#[45]⟩, .string ⟨#[42]⟩, .string ⟨#[47]⟩] 9)) := ((((Below.refl _ _).alloc (Nat.le_refl _) _).alloc (by simp) _).alloc (by simp; omega) _).alloc (by simp; omega) _
  simp only [World.size_alloc] at B2
  generalize ((((w.alloc (Obj.cells #[.int .u64 (xl : Int), .int .u64 (xh : Int)] 28)).alloc (Obj.cells #[.int .u64 (yl : Int), .int .u64 (yh : Int)] 28)).alloc (Obj.cells #[.int .u64 0, .int .u64 0] 28)).alloc (Obj.cells #[.string ⟨#[]⟩, .string ⟨#[104, 117, 108, 108]⟩, .string ⟨#[109, 101, 101, 116]⟩, .string ⟨#[43]⟩, .string ⟨#[45]⟩, .string ⟨#[42]⟩, .string ⟨#[47]⟩] 9)) = W2 at *
  refine Calls.mono (HR.out _) ?_
  rintro ev w9 ⟨rfl, hb9⟩
  have HK : Hid (w9.heap[w.heap.size + 1 + 1]? = _) := blk_below B2 hb9
  have HB : Hid (Below w.heap.size w w9) := hW.trans (hb9.mono hW.size)
  clear hb9 hW B2 HR
  obtain ⟨q0, q1, q2, q3⟩ := blk2 HK.out
  go_wp2_with fail
  obtain ⟨p0, p1, -, -⟩ := blk2 (blk_store2 (a := .int .u64 (r1 : Int)) (b := .int .u64 (r2 : Int)) HK.out)
  refine bodyPost_ret (v := .tuple #[.agg #[.int .u64 (r1 : Int), .int .u64 (r2 : Int)], .int .i64 (r3 : Int), .string rs]) (by simp [results, Tryz.results31, go_sem, p0, p1]) rfl ?_
  exact ⟨rfl, (HB.out.setCell (by simp; omega) _).setCell (by simp; omega) _⟩

set_option maxHeartbeats 4000000 in
set_option maxRecDepth 100000 in
theorem refApply_add (s : ByteArray) (xl xh yl yh : Nat) (r1 r2 r3 : Nat) (rs : ByteArray) (w : World) (hs : s.toList = [43]) (hr : ∀ W, Calls Tryz.prog 29 #[.int .i64 3, .agg #[.int .u64 (xl : Int), .int .u64 (xh : Int)], .agg #[.int .u64 (yl : Int), .int .u64 (yh : Int)]] W fun e w' => e = .returned (.tuple #[.agg #[.int .u64 (r1 : Int), .int .u64 (r2 : Int)], .int .i64 (r3 : Int), .string rs]) ∧ Below W.heap.size W w') :
    Calls Tryz.prog 31 #[.string s, .agg #[.int .u64 (xl : Int), .int .u64 (xh : Int)], .agg #[.int .u64 (yl : Int), .int .u64 (yh : Int)]] w fun e w' => e = .returned (.tuple #[.agg #[.int .u64 (r1 : Int), .int .u64 (r2 : Int)], .int .i64 (r3 : Int), .string rs]) ∧ Below w.heap.size w w' := by
  have HR : Hid (∀ W, Calls Tryz.prog 29 #[.int .i64 3, .agg #[.int .u64 (xl : Int), .int .u64 (xh : Int)], .agg #[.int .u64 (yl : Int), .int .u64 (yh : Int)]] W fun e w' => e = .returned (.tuple #[.agg #[.int .u64 (r1 : Int), .int .u64 (r2 : Int)], .int .i64 (r3 : Int), .string rs]) ∧ Below W.heap.size W w') := hr
  have e0 : ([104, 117, 108, 108] == s.toList) = false := by rw [hs]; rfl
  have e1 : ([109, 101, 101, 116] == s.toList) = false := by rw [hs]; rfl
  have e2 : ([43] == s.toList) = true := by rw [hs]; rfl
  have e3 : ([45] == s.toList) = false := by rw [hs]; rfl
  have e4 : ([42] == s.toList) = false := by rw [hs]; rfl
  have e5 : ([47] == s.toList) = false := by rw [hs]; rfl
  clear hr hs
  go_enter Tryz.func31, Tryz.ntmps31
  go_wp2_with fail
  refine wp_loop_rounds 7 ?_
  rw [rounds_succ]
  go_wp2_with fail
  rw [rounds_succ]
  go_wp2_with fail
  rw [rounds_succ]
  go_wp2_with fail
  have B2 := blk_old (blk_new ((w.alloc (Obj.cells #[.int .u64 (xl : Int), .int .u64 (xh : Int)] 28)).alloc (Obj.cells #[.int .u64 (yl : Int), .int .u64 (yh : Int)] 28)) (Obj.cells #[.int .u64 0, .int .u64 0] 28)) (Obj.cells #[.string ⟨#[]⟩, .string ⟨#[104, 117, 108, 108]⟩, .string ⟨#[109, 101, 101, 116]⟩, .string ⟨#[43]⟩, .string ⟨#[45]⟩, .string ⟨#[42]⟩, .string ⟨#[47]⟩] 9)
  have hW : Below w.heap.size w ((((w.alloc (Obj.cells #[.int .u64 (xl : Int), .int .u64 (xh : Int)] 28)).alloc (Obj.cells #[.int .u64 (yl : Int), .int .u64 (yh : Int)] 28)).alloc (Obj.cells #[.int .u64 0, .int .u64 0] 28)).alloc (Obj.cells #[.string ⟨#[]⟩, .string ⟨#[104, 117, 108, 108]⟩, .string ⟨#[109, 101, 101, 116]⟩, .string ⟨#[43]⟩, .string ⟨#[45]⟩, .string ⟨#[42]⟩, .string ⟨#[47]⟩] 9)) := ((((Below.refl _ _).alloc (Nat.le_refl _) _).alloc (by simp) _).alloc (by simp; omega) _).alloc (by simp; omega) _
  simp only [World.size_alloc] at B2
  generalize ((((w.alloc (Obj.cells #[.int .u64 (xl : Int), .int .u64 (xh : Int)] 28)).alloc (Obj.cells #[.int .u64 (yl : Int), .int .u64 (yh : Int)] 28)).alloc (Obj.cells #[.int .u64 0, .int .u64 0] 28)).alloc (Obj.cells #[.string ⟨#[]⟩, .string ⟨#[104, 117, 108, 108]⟩, .string ⟨#[109, 101, 101, 116]⟩, .string ⟨#[43]⟩, .string ⟨#[45]⟩, .string ⟨#[42]⟩, .string ⟨#[47]⟩] 9)) = W2 at *
  refine Calls.mono (HR.out _) ?_
  rintro ev w9 ⟨rfl, hb9⟩
  have HK : Hid (w9.heap[w.heap.size + 1 + 1]? = _) := blk_below B2 hb9
  have HB : Hid (Below w.heap.size w w9) := hW.trans (hb9.mono hW.size)
  clear hb9 hW B2 HR
  obtain ⟨q0, q1, q2, q3⟩ := blk2 HK.out
  go_wp2_with fail
  obtain ⟨p0, p1, -, -⟩ := blk2 (blk_store2 (a := .int .u64 (r1 : Int)) (b := .int .u64 (r2 : Int)) HK.out)
  refine bodyPost_ret (v := .tuple #[.agg #[.int .u64 (r1 : Int), .int .u64 (r2 : Int)], .int .i64 (r3 : Int), .string rs]) (by simp [results, Tryz.results31, go_sem, p0, p1]) rfl ?_
  exact ⟨rfl, (HB.out.setCell (by simp; omega) _).setCell (by simp; omega) _⟩

set_option maxHeartbeats 4000000 in
set_option maxRecDepth 100000 in
theorem refApply_sub (s : ByteArray) (xl xh yl yh : Nat) (r1 r2 r3 : Nat) (rs : ByteArray) (w : World) (hs : s.toList = [45]) (hr : ∀ W, Calls Tryz.prog 29 #[.int .i64 4, .agg #[.int .u64 (xl : Int), .int .u64 (xh : Int)], .agg #[.int .u64 (yl : Int), .int .u64 (yh : Int)]] W fun e w' => e = .returned (.tuple #[.agg #[.int .u64 (r1 : Int), .int .u64 (r2 : Int)], .int .i64 (r3 : Int), .string rs]) ∧ Below W.heap.size W w') :
    Calls Tryz.prog 31 #[.string s, .agg #[.int .u64 (xl : Int), .int .u64 (xh : Int)], .agg #[.int .u64 (yl : Int), .int .u64 (yh : Int)]] w fun e w' => e = .returned (.tuple #[.agg #[.int .u64 (r1 : Int), .int .u64 (r2 : Int)], .int .i64 (r3 : Int), .string rs]) ∧ Below w.heap.size w w' := by
  have HR : Hid (∀ W, Calls Tryz.prog 29 #[.int .i64 4, .agg #[.int .u64 (xl : Int), .int .u64 (xh : Int)], .agg #[.int .u64 (yl : Int), .int .u64 (yh : Int)]] W fun e w' => e = .returned (.tuple #[.agg #[.int .u64 (r1 : Int), .int .u64 (r2 : Int)], .int .i64 (r3 : Int), .string rs]) ∧ Below W.heap.size W w') := hr
  have e0 : ([104, 117, 108, 108] == s.toList) = false := by rw [hs]; rfl
  have e1 : ([109, 101, 101, 116] == s.toList) = false := by rw [hs]; rfl
  have e2 : ([43] == s.toList) = false := by rw [hs]; rfl
  have e3 : ([45] == s.toList) = true := by rw [hs]; rfl
  have e4 : ([42] == s.toList) = false := by rw [hs]; rfl
  have e5 : ([47] == s.toList) = false := by rw [hs]; rfl
  clear hr hs
  go_enter Tryz.func31, Tryz.ntmps31
  go_wp2_with fail
  refine wp_loop_rounds 7 ?_
  rw [rounds_succ]
  go_wp2_with fail
  rw [rounds_succ]
  go_wp2_with fail
  rw [rounds_succ]
  go_wp2_with fail
  rw [rounds_succ]
  go_wp2_with fail
  have B2 := blk_old (blk_new ((w.alloc (Obj.cells #[.int .u64 (xl : Int), .int .u64 (xh : Int)] 28)).alloc (Obj.cells #[.int .u64 (yl : Int), .int .u64 (yh : Int)] 28)) (Obj.cells #[.int .u64 0, .int .u64 0] 28)) (Obj.cells #[.string ⟨#[]⟩, .string ⟨#[104, 117, 108, 108]⟩, .string ⟨#[109, 101, 101, 116]⟩, .string ⟨#[43]⟩, .string ⟨#[45]⟩, .string ⟨#[42]⟩, .string ⟨#[47]⟩] 9)
  have hW : Below w.heap.size w ((((w.alloc (Obj.cells #[.int .u64 (xl : Int), .int .u64 (xh : Int)] 28)).alloc (Obj.cells #[.int .u64 (yl : Int), .int .u64 (yh : Int)] 28)).alloc (Obj.cells #[.int .u64 0, .int .u64 0] 28)).alloc (Obj.cells #[.string ⟨#[]⟩, .string ⟨#[104, 117, 108, 108]⟩, .string ⟨#[109, 101, 101, 116]⟩, .string ⟨#[43]⟩, .string ⟨#[45]⟩, .string ⟨#[42]⟩, .string ⟨#[47]⟩] 9)) := ((((Below.refl _ _).alloc (Nat.le_refl _) _).alloc (by simp) _).alloc (by simp; omega) _).alloc (by simp; omega) _
  simp only [World.size_alloc] at B2
  generalize ((((w.alloc (Obj.cells #[.int .u64 (xl : Int), .int .u64 (xh : Int)] 28)).alloc (Obj.cells #[.int .u64 (yl : Int), .int .u64 (yh : Int)] 28)).alloc (Obj.cells #[.int .u64 0, .int .u64 0] 28)).alloc (Obj.cells #[.string ⟨#[]⟩, .string ⟨#[104, 117, 108, 108]⟩, .string ⟨#[109, 101, 101, 116]⟩, .string ⟨#[43]⟩, .string ⟨#[45]⟩, .string ⟨#[42]⟩, .string ⟨#[47]⟩] 9)) = W2 at *
  refine Calls.mono (HR.out _) ?_
  rintro ev w9 ⟨rfl, hb9⟩
  have HK : Hid (w9.heap[w.heap.size + 1 + 1]? = _) := blk_below B2 hb9
  have HB : Hid (Below w.heap.size w w9) := hW.trans (hb9.mono hW.size)
  clear hb9 hW B2 HR
  obtain ⟨q0, q1, q2, q3⟩ := blk2 HK.out
  go_wp2_with fail
  obtain ⟨p0, p1, -, -⟩ := blk2 (blk_store2 (a := .int .u64 (r1 : Int)) (b := .int .u64 (r2 : Int)) HK.out)
  refine bodyPost_ret (v := .tuple #[.agg #[.int .u64 (r1 : Int), .int .u64 (r2 : Int)], .int .i64 (r3 : Int), .string rs]) (by simp [results, Tryz.results31, go_sem, p0, p1]) rfl ?_
  exact ⟨rfl, (HB.out.setCell (by simp; omega) _).setCell (by simp; omega) _⟩

set_option maxHeartbeats 4000000 in
set_option maxRecDepth 100000 in
theorem refApply_mul (s : ByteArray) (xl xh yl yh : Nat) (r1 r2 r3 : Nat) (rs : ByteArray) (w : World) (hs : s.toList = [42]) (hr : ∀ W, Calls Tryz.prog 29 #[.int .i64 5, .agg #[.int .u64 (xl : Int), .int .u64 (xh : Int)], .agg #[.int .u64 (yl : Int), .int .u64 (yh : Int)]] W fun e w' => e = .returned (.tuple #[.agg #[.int .u64 (r1 : Int), .int .u64 (r2 : Int)], .int .i64 (r3 : Int), .string rs]) ∧ Below W.heap.size W w') :
    Calls Tryz.prog 31 #[.string s, .agg #[.int .u64 (xl : Int), .int .u64 (xh : Int)], .agg #[.int .u64 (yl : Int), .int .u64 (yh : Int)]] w fun e w' => e = .returned (.tuple #[.agg #[.int .u64 (r1 : Int), .int .u64 (r2 : Int)], .int .i64 (r3 : Int), .string rs]) ∧ Below w.heap.size w w' := by
  have HR : Hid (∀ W, Calls Tryz.prog 29 #[.int .i64 5, .agg #[.int .u64 (xl : Int), .int .u64 (xh : Int)], .agg #[.int .u64 (yl : Int), .int .u64 (yh : Int)]] W fun e w' => e = .returned (.tuple #[.agg #[.int .u64 (r1 : Int), .int .u64 (r2 : Int)], .int .i64 (r3 : Int), .string rs]) ∧ Below W.heap.size W w') := hr
  have e0 : ([104, 117, 108, 108] == s.toList) = false := by rw [hs]; rfl
  have e1 : ([109, 101, 101, 116] == s.toList) = false := by rw [hs]; rfl
  have e2 : ([43] == s.toList) = false := by rw [hs]; rfl
  have e3 : ([45] == s.toList) = false := by rw [hs]; rfl
  have e4 : ([42] == s.toList) = true := by rw [hs]; rfl
  have e5 : ([47] == s.toList) = false := by rw [hs]; rfl
  clear hr hs
  go_enter Tryz.func31, Tryz.ntmps31
  go_wp2_with fail
  refine wp_loop_rounds 7 ?_
  rw [rounds_succ]
  go_wp2_with fail
  rw [rounds_succ]
  go_wp2_with fail
  rw [rounds_succ]
  go_wp2_with fail
  rw [rounds_succ]
  go_wp2_with fail
  rw [rounds_succ]
  go_wp2_with fail
  have B2 := blk_old (blk_new ((w.alloc (Obj.cells #[.int .u64 (xl : Int), .int .u64 (xh : Int)] 28)).alloc (Obj.cells #[.int .u64 (yl : Int), .int .u64 (yh : Int)] 28)) (Obj.cells #[.int .u64 0, .int .u64 0] 28)) (Obj.cells #[.string ⟨#[]⟩, .string ⟨#[104, 117, 108, 108]⟩, .string ⟨#[109, 101, 101, 116]⟩, .string ⟨#[43]⟩, .string ⟨#[45]⟩, .string ⟨#[42]⟩, .string ⟨#[47]⟩] 9)
  have hW : Below w.heap.size w ((((w.alloc (Obj.cells #[.int .u64 (xl : Int), .int .u64 (xh : Int)] 28)).alloc (Obj.cells #[.int .u64 (yl : Int), .int .u64 (yh : Int)] 28)).alloc (Obj.cells #[.int .u64 0, .int .u64 0] 28)).alloc (Obj.cells #[.string ⟨#[]⟩, .string ⟨#[104, 117, 108, 108]⟩, .string ⟨#[109, 101, 101, 116]⟩, .string ⟨#[43]⟩, .string ⟨#[45]⟩, .string ⟨#[42]⟩, .string ⟨#[47]⟩] 9)) := ((((Below.refl _ _).alloc (Nat.le_refl _) _).alloc (by simp) _).alloc (by simp; omega) _).alloc (by simp; omega) _
  simp only [World.size_alloc] at B2
  generalize ((((w.alloc (Obj.cells #[.int .u64 (xl : Int), .int .u64 (xh : Int)] 28)).alloc (Obj.cells #[.int .u64 (yl : Int), .int .u64 (yh : Int)] 28)).alloc (Obj.cells #[.int .u64 0, .int .u64 0] 28)).alloc (Obj.cells #[.string ⟨#[]⟩, .string ⟨#[104, 117, 108, 108]⟩, .string ⟨#[109, 101, 101, 116]⟩, .string ⟨#[43]⟩, .string ⟨#[45]⟩, .string ⟨#[42]⟩, .string ⟨#[47]⟩] 9)) = W2 at *
  refine Calls.mono (HR.out _) ?_
  rintro ev w9 ⟨rfl, hb9⟩
  have HK : Hid (w9.heap[w.heap.size + 1 + 1]? = _) := blk_below B2 hb9
  have HB : Hid (Below w.heap.size w w9) := hW.trans (hb9.mono hW.size)
  clear hb9 hW B2 HR
  obtain ⟨q0, q1, q2, q3⟩ := blk2 HK.out
  go_wp2_with fail
  obtain ⟨p0, p1, -, -⟩ := blk2 (blk_store2 (a := .int .u64 (r1 : Int)) (b := .int .u64 (r2 : Int)) HK.out)
  refine bodyPost_ret (v := .tuple #[.agg #[.int .u64 (r1 : Int), .int .u64 (r2 : Int)], .int .i64 (r3 : Int), .string rs]) (by simp [results, Tryz.results31, go_sem, p0, p1]) rfl ?_
  exact ⟨rfl, (HB.out.setCell (by simp; omega) _).setCell (by simp; omega) _⟩

set_option maxHeartbeats 4000000 in
set_option maxRecDepth 100000 in
theorem refApply_div (s : ByteArray) (xl xh yl yh : Nat) (r1 r2 r3 : Nat) (rs : ByteArray) (w : World) (hs : s.toList = [47]) (hr : ∀ W, Calls Tryz.prog 29 #[.int .i64 6, .agg #[.int .u64 (xl : Int), .int .u64 (xh : Int)], .agg #[.int .u64 (yl : Int), .int .u64 (yh : Int)]] W fun e w' => e = .returned (.tuple #[.agg #[.int .u64 (r1 : Int), .int .u64 (r2 : Int)], .int .i64 (r3 : Int), .string rs]) ∧ Below W.heap.size W w') :
    Calls Tryz.prog 31 #[.string s, .agg #[.int .u64 (xl : Int), .int .u64 (xh : Int)], .agg #[.int .u64 (yl : Int), .int .u64 (yh : Int)]] w fun e w' => e = .returned (.tuple #[.agg #[.int .u64 (r1 : Int), .int .u64 (r2 : Int)], .int .i64 (r3 : Int), .string rs]) ∧ Below w.heap.size w w' := by
  have HR : Hid (∀ W, Calls Tryz.prog 29 #[.int .i64 6, .agg #[.int .u64 (xl : Int), .int .u64 (xh : Int)], .agg #[.int .u64 (yl : Int), .int .u64 (yh : Int)]] W fun e w' => e = .returned (.tuple #[.agg #[.int .u64 (r1 : Int), .int .u64 (r2 : Int)], .int .i64 (r3 : Int), .string rs]) ∧ Below W.heap.size W w') := hr
  have e0 : ([104, 117, 108, 108] == s.toList) = false := by rw [hs]; rfl
  have e1 : ([109, 101, 101, 116] == s.toList) = false := by rw [hs]; rfl
  have e2 : ([43] == s.toList) = false := by rw [hs]; rfl
  have e3 : ([45] == s.toList) = false := by rw [hs]; rfl
  have e4 : ([42] == s.toList) = false := by rw [hs]; rfl
  have e5 : ([47] == s.toList) = true := by rw [hs]; rfl
  clear hr hs
  go_enter Tryz.func31, Tryz.ntmps31
  go_wp2_with fail
  refine wp_loop_rounds 7 ?_
  rw [rounds_succ]
  go_wp2_with fail
  rw [rounds_succ]
  go_wp2_with fail
  rw [rounds_succ]
  go_wp2_with fail
  rw [rounds_succ]
  go_wp2_with fail
  rw [rounds_succ]
  go_wp2_with fail
  rw [rounds_succ]
  go_wp2_with fail
  have B2 := blk_old (blk_new ((w.alloc (Obj.cells #[.int .u64 (xl : Int), .int .u64 (xh : Int)] 28)).alloc (Obj.cells #[.int .u64 (yl : Int), .int .u64 (yh : Int)] 28)) (Obj.cells #[.int .u64 0, .int .u64 0] 28)) (Obj.cells #[.string ⟨#[]⟩, .string ⟨#[104, 117, 108, 108]⟩, .string ⟨#[109, 101, 101, 116]⟩, .string ⟨#[43]⟩, .string ⟨#[45]⟩, .string ⟨#[42]⟩, .string ⟨#[47]⟩] 9)
  have hW : Below w.heap.size w ((((w.alloc (Obj.cells #[.int .u64 (xl : Int), .int .u64 (xh : Int)] 28)).alloc (Obj.cells #[.int .u64 (yl : Int), .int .u64 (yh : Int)] 28)).alloc (Obj.cells #[.int .u64 0, .int .u64 0] 28)).alloc (Obj.cells #[.string ⟨#[]⟩, .string ⟨#[104, 117, 108, 108]⟩, .string ⟨#[109, 101, 101, 116]⟩, .string ⟨#[43]⟩, .string ⟨#[45]⟩, .string ⟨#[42]⟩, .string ⟨#[47]⟩] 9)) := ((((Below.refl _ _).alloc (Nat.le_refl _) _).alloc (by simp) _).alloc (by simp; omega) _).alloc (by simp; omega) _
  simp only [World.size_alloc] at B2
  generalize ((((w.alloc (Obj.cells #[.int .u64 (xl : Int), .int .u64 (xh : Int)] 28)).alloc (Obj.cells #[.int .u64 (yl : Int), .int .u64 (yh : Int)] 28)).alloc (Obj.cells #[.int .u64 0, .int .u64 0] 28)).alloc (Obj.cells #[.string ⟨#[]⟩, .string ⟨#[104, 117, 108, 108]⟩, .string ⟨#[109, 101, 101, 116]⟩, .string ⟨#[43]⟩, .string ⟨#[45]⟩, .string ⟨#[42]⟩, .string ⟨#[47]⟩] 9)) = W2 at *
  refine Calls.mono (HR.out _) ?_
  rintro ev w9 ⟨rfl, hb9⟩
  have HK : Hid (w9.heap[w.heap.size + 1 + 1]? = _) := blk_below B2 hb9
  have HB : Hid (Below w.heap.size w w9) := hW.trans (hb9.mono hW.size)
  clear hb9 hW B2 HR
  obtain ⟨q0, q1, q2, q3⟩ := blk2 HK.out
  go_wp2_with fail
  obtain ⟨p0, p1, -, -⟩ := blk2 (blk_store2 (a := .int .u64 (r1 : Int)) (b := .int .u64 (r2 : Int)) HK.out)
  refine bodyPost_ret (v := .tuple #[.agg #[.int .u64 (r1 : Int), .int .u64 (r2 : Int)], .int .i64 (r3 : Int), .string rs]) (by simp [results, Tryz.results31, go_sem, p0, p1]) rfl ?_
  exact ⟨rfl, (HB.out.setCell (by simp; omega) _).setCell (by simp; omega) _⟩

set_option maxHeartbeats 4000000 in
set_option maxRecDepth 100000 in
theorem refApply_else (s : ByteArray) (xl xh yl yh : Nat) (w : World) (hs : s.toList ≠ [104, 117, 108, 108] ∧ s.toList ≠ [109, 101, 101, 116] ∧ s.toList ≠ [43] ∧ s.toList ≠ [45] ∧ s.toList ≠ [42] ∧ s.toList ≠ [47]) :
    Calls Tryz.prog 31 #[.string s, .agg #[.int .u64 (xl : Int), .int .u64 (xh : Int)], .agg #[.int .u64 (yl : Int), .int .u64 (yh : Int)]] w fun e w' => e = .returned (.tuple #[.agg #[.int .u64 0, .int .u64 0], .int .i64 7, .string s]) ∧ Below w.heap.size w w' := by
  obtain ⟨n0, n1, n2, n3, n4, n5⟩ := hs
  have e0 : ([104, 117, 108, 108] == s.toList) = false := beq_eq_false_iff_ne.2 (fun h => n0 h.symm)
  have e1 : ([109, 101, 101, 116] == s.toList) = false := beq_eq_false_iff_ne.2 (fun h => n1 h.symm)
  have e2 : ([43] == s.toList) = false := beq_eq_false_iff_ne.2 (fun h => n2 h.symm)
  have e3 : ([45] == s.toList) = false := beq_eq_false_iff_ne.2 (fun h => n3 h.symm)
  have e4 : ([42] == s.toList) = false := beq_eq_false_iff_ne.2 (fun h => n4 h.symm)
  have e5 : ([47] == s.toList) = false := beq_eq_false_iff_ne.2 (fun h => n5 h.symm)
  clear n0 n1 n2 n3 n4 n5
  go_enter Tryz.func31, Tryz.ntmps31
  go_wp2_with fail
  refine wp_loop_rounds 7 ?_
  rw [rounds_succ]
  go_wp2_with fail
  rw [rounds_succ]
  go_wp2_with fail
  rw [rounds_succ]
  go_wp2_with fail
  rw [rounds_succ]
  go_wp2_with fail
  rw [rounds_succ]
  go_wp2_with fail
  rw [rounds_succ]
  go_wp2_with fail
  rw [rounds_succ]
  go_wp2_with fail
  have B2 := blk_old (blk_new ((w.alloc (Obj.cells #[.int .u64 (xl : Int), .int .u64 (xh : Int)] 28)).alloc (Obj.cells #[.int .u64 (yl : Int), .int .u64 (yh : Int)] 28)) (Obj.cells #[.int .u64 0, .int .u64 0] 28)) (Obj.cells #[.string ⟨#[]⟩, .string ⟨#[104, 117, 108, 108]⟩, .string ⟨#[109, 101, 101, 116]⟩, .string ⟨#[43]⟩, .string ⟨#[45]⟩, .string ⟨#[42]⟩, .string ⟨#[47]⟩] 9)
  have hW : Below w.heap.size w ((((w.alloc (Obj.cells #[.int .u64 (xl : Int), .int .u64 (xh : Int)] 28)).alloc (Obj.cells #[.int .u64 (yl : Int), .int .u64 (yh : Int)] 28)).alloc (Obj.cells #[.int .u64 0, .int .u64 0] 28)).alloc (Obj.cells #[.string ⟨#[]⟩, .string ⟨#[104, 117, 108, 108]⟩, .string ⟨#[109, 101, 101, 116]⟩, .string ⟨#[43]⟩, .string ⟨#[45]⟩, .string ⟨#[42]⟩, .string ⟨#[47]⟩] 9)) := ((((Below.refl _ _).alloc (Nat.le_refl _) _).alloc (by simp) _).alloc (by simp; omega) _).alloc (by simp; omega) _
  simp only [World.size_alloc] at B2
  obtain ⟨p0, p1, -, -⟩ := blk2 B2
  refine bodyPost_ret (v := .tuple #[.agg #[.int .u64 0, .int .u64 0], .int .i64 7, .string s]) (by simp [results, Tryz.results31, go_sem, p0, p1]) rfl ?_
  exact ⟨rfl, hW⟩

end Go.Proofs.YtonhpkigoplmaaaGreatDoor
namespace Go.Proofs.YtonhpkigoplmaaaGreatDoor
open Go.RowKit Go.Extern Ieee
attribute [local go_sem] run_store_float

theorem run_store_func {P : Program} {w : World} {a : Addr} {m : Mode} (f : Fn) (x y : Array Value) : (store a (.func f x y) m).run P w = stored P w a (.func f x y) m := run_store P w a _ m rfl
attribute [local go_sem] run_store_func

set_option maxRecDepth 100000 in
theorem operations_any (w : World) : Calls Tryz.prog 126 #[] w fun e w' => e = .returned (.agg #[.string ⟨#[43]⟩, .func (.func 44) #[] #[], .string ⟨#[45]⟩, .func (.func 45) #[] #[], .string ⟨#[42]⟩, .func (.func 46) #[] #[], .string ⟨#[47]⟩, .func (.func 47) #[] #[], .string ⟨#[104, 117, 108, 108]⟩, .func (.func 166) #[] #[], .string ⟨#[109, 101, 101, 116]⟩, .func (.func 43) #[] #[]]) ∧ Below w.heap.size w w' := by
  go_enter Tryz.func126, Tryz.ntmps126
  go_wp2_with fail
  refine bodyPost_ret (v := .agg #[.string ⟨#[43]⟩, .func (.func 44) #[] #[], .string ⟨#[45]⟩, .func (.func 45) #[] #[], .string ⟨#[42]⟩, .func (.func 46) #[] #[], .string ⟨#[47]⟩, .func (.func 47) #[] #[], .string ⟨#[104, 117, 108, 108]⟩, .func (.func 166) #[] #[], .string ⟨#[109, 101, 101, 116]⟩, .func (.func 43) #[] #[]]) (by simp [results, Tryz.results126, go_sem]) rfl ?_
  exact ⟨rfl, (Below.refl _ _).alloc (Nat.le_refl _) _⟩

set_option maxRecDepth 100000 in
theorem hullAlways_any (A : Nat → Addr) (al ah bl bh r1 r2 : Nat) (w : World) (h : ∀ w, Calls Tryz.prog 42 #[.agg #[.float .f64 al, .float .f64 ah], .agg #[.float .f64 bl, .float .f64 bh]] w fun ev w' => ev = .returned (.agg #[.float .f64 r1, .float .f64 r2]) ∧ Below w.heap.size w w') :
    Calls Tryz.prog 166 #[.agg #[.float .f64 al, .float .f64 ah], .agg #[.float .f64 bl, .float .f64 bh]] w fun ev w' => OpR A w r1 r2 0 ⟨#[]⟩ ev w' := by
  have H : Hid (∀ w, Calls Tryz.prog 42 #[.agg #[.float .f64 al, .float .f64 ah], .agg #[.float .f64 bl, .float .f64 bh]] w fun ev w' => ev = .returned (.agg #[.float .f64 r1, .float .f64 r2]) ∧ Below w.heap.size w w') := h
  clear h
  go_enter Tryz.func166, Tryz.ntmps166
  go_wp2_with fail
  have B2 := blk_new ((w.alloc (Obj.cells #[.float .f64 al, .float .f64 ah] 67)).alloc (Obj.cells #[.float .f64 bl, .float .f64 bh] 67)) (Obj.cells #[.float .f64 0, .float .f64 0] 67)
  have hW : Below w.heap.size w (((w.alloc (Obj.cells #[.float .f64 al, .float .f64 ah] 67)).alloc (Obj.cells #[.float .f64 bl, .float .f64 bh] 67)).alloc (Obj.cells #[.float .f64 0, .float .f64 0] 67)) := (((Below.refl _ _).alloc (Nat.le_refl _) _).alloc (by simp) _).alloc (by simp; omega) _
  simp only [World.size_alloc] at B2
  generalize (((w.alloc (Obj.cells #[.float .f64 al, .float .f64 ah] 67)).alloc (Obj.cells #[.float .f64 bl, .float .f64 bh] 67)).alloc (Obj.cells #[.float .f64 0, .float .f64 0] 67)) = W2 at *
  refine Calls.mono (H.out _) ?_
  rintro e w9 ⟨rfl, hb9⟩
  have HB9 : Hid (Below w.heap.size w w9) := hW.trans (hb9.mono hW.size)
  have HK9 : Hid (w9.heap[w.heap.size + 1 + 1]? = _) := blk_below B2 hb9
  obtain ⟨k0, k1, k2, k3⟩ := blk2 HK9.out
  clear hb9 hW B2 H
  go_wp2_with fail
  obtain ⟨p0, p1, -, -⟩ := blk2 (blk_store2 (a := .float .f64 r1) (b := .float .f64 r2) HK9.out)
  refine bodyPost_ret (v := .tuple #[.agg #[.float .f64 r1, .float .f64 r2], .nilIface]) (by simp [results, Tryz.results166, go_sem, p0, p1]) rfl ?_
  exact ⟨_, rfl, .nil, (HB9.out.setCell (by simp; omega) _).setCell (by simp; omega) _⟩

theorem c_op0 (w : World) : (Instr.index 172 (.agg #[.string ⟨#[43]⟩, .func (.func 44) #[] #[], .string ⟨#[45]⟩, .func (.func 45) #[] #[], .string ⟨#[42]⟩, .func (.func 46) #[] #[], .string ⟨#[47]⟩, .func (.func 47) #[] #[], .string ⟨#[104, 117, 108, 108]⟩, .func (.func 166) #[] #[], .string ⟨#[109, 101, 101, 116]⟩, .func (.func 43) #[] #[]]) (.int .i64 0)).run Tryz.prog w = .ok (.agg #[.string ⟨#[43]⟩, .func (.func 44) #[] #[]]) w := by kernel_rfl
theorem c_op1 (w : World) : (Instr.index 172 (.agg #[.string ⟨#[43]⟩, .func (.func 44) #[] #[], .string ⟨#[45]⟩, .func (.func 45) #[] #[], .string ⟨#[42]⟩, .func (.func 46) #[] #[], .string ⟨#[47]⟩, .func (.func 47) #[] #[], .string ⟨#[104, 117, 108, 108]⟩, .func (.func 166) #[] #[], .string ⟨#[109, 101, 101, 116]⟩, .func (.func 43) #[] #[]]) (.int .i64 1)).run Tryz.prog w = .ok (.agg #[.string ⟨#[45]⟩, .func (.func 45) #[] #[]]) w := by kernel_rfl
theorem c_op2 (w : World) : (Instr.index 172 (.agg #[.string ⟨#[43]⟩, .func (.func 44) #[] #[], .string ⟨#[45]⟩, .func (.func 45) #[] #[], .string ⟨#[42]⟩, .func (.func 46) #[] #[], .string ⟨#[47]⟩, .func (.func 47) #[] #[], .string ⟨#[104, 117, 108, 108]⟩, .func (.func 166) #[] #[], .string ⟨#[109, 101, 101, 116]⟩, .func (.func 43) #[] #[]]) (.int .i64 2)).run Tryz.prog w = .ok (.agg #[.string ⟨#[42]⟩, .func (.func 46) #[] #[]]) w := by kernel_rfl
theorem c_op3 (w : World) : (Instr.index 172 (.agg #[.string ⟨#[43]⟩, .func (.func 44) #[] #[], .string ⟨#[45]⟩, .func (.func 45) #[] #[], .string ⟨#[42]⟩, .func (.func 46) #[] #[], .string ⟨#[47]⟩, .func (.func 47) #[] #[], .string ⟨#[104, 117, 108, 108]⟩, .func (.func 166) #[] #[], .string ⟨#[109, 101, 101, 116]⟩, .func (.func 43) #[] #[]]) (.int .i64 3)).run Tryz.prog w = .ok (.agg #[.string ⟨#[47]⟩, .func (.func 47) #[] #[]]) w := by kernel_rfl
theorem c_op4 (w : World) : (Instr.index 172 (.agg #[.string ⟨#[43]⟩, .func (.func 44) #[] #[], .string ⟨#[45]⟩, .func (.func 45) #[] #[], .string ⟨#[42]⟩, .func (.func 46) #[] #[], .string ⟨#[47]⟩, .func (.func 47) #[] #[], .string ⟨#[104, 117, 108, 108]⟩, .func (.func 166) #[] #[], .string ⟨#[109, 101, 101, 116]⟩, .func (.func 43) #[] #[]]) (.int .i64 4)).run Tryz.prog w = .ok (.agg #[.string ⟨#[104, 117, 108, 108]⟩, .func (.func 166) #[] #[]]) w := by kernel_rfl
theorem c_op5 (w : World) : (Instr.index 172 (.agg #[.string ⟨#[43]⟩, .func (.func 44) #[] #[], .string ⟨#[45]⟩, .func (.func 45) #[] #[], .string ⟨#[42]⟩, .func (.func 46) #[] #[], .string ⟨#[47]⟩, .func (.func 47) #[] #[], .string ⟨#[104, 117, 108, 108]⟩, .func (.func 166) #[] #[], .string ⟨#[109, 101, 101, 116]⟩, .func (.func 43) #[] #[]]) (.int .i64 5)).run Tryz.prog w = .ok (.agg #[.string ⟨#[109, 101, 101, 116]⟩, .func (.func 43) #[] #[]]) w := by kernel_rfl

set_option maxHeartbeats 4000000 in
set_option maxRecDepth 100000 in
theorem apply_add (A : Nat → Addr) (s : ByteArray) (al ah bl bh : Nat) (r1 r2 r3 : Nat) (rs : ByteArray) (w : World) (hS : Sents A w) (hs : s.toList = [43]) (hr : ∀ W, Sents A W → Calls Tryz.prog 44 #[.agg #[.float .f64 al, .float .f64 ah], .agg #[.float .f64 bl, .float .f64 bh]] W fun ev w' => OpR A W r1 r2 r3 rs ev w') :
    Calls Tryz.prog 71 #[.string s, .agg #[.float .f64 al, .float .f64 ah], .agg #[.float .f64 bl, .float .f64 bh]] w fun ev w' => OpR A w r1 r2 r3 rs ev w' := by
  have HS : Hid (Sents A w) := hS
  have HO : Hid (∀ W, Calls Tryz.prog 126 #[] W fun e w' => e = .returned (.agg #[.string ⟨#[43]⟩, .func (.func 44) #[] #[], .string ⟨#[45]⟩, .func (.func 45) #[] #[], .string ⟨#[42]⟩, .func (.func 46) #[] #[], .string ⟨#[47]⟩, .func (.func 47) #[] #[], .string ⟨#[104, 117, 108, 108]⟩, .func (.func 166) #[] #[], .string ⟨#[109, 101, 101, 116]⟩, .func (.func 43) #[] #[]]) ∧ Below W.heap.size W w') := operations_any
  clear hS
  have HF : Hid (∀ W, Below w.heap.size w W → Calls Tryz.prog 44 #[.agg #[.float .f64 al, .float .f64 ah], .agg #[.float .f64 bl, .float .f64 bh]] W fun ev w' => OpR A W r1 r2 r3 rs ev w') := fun W hb => hr W (HS.out.below hb (Nat.le_refl _))
  have e0 : ([43] == s.toList) = true := by rw [hs]; rfl
  have e1 : ([45] == s.toList) = false := by rw [hs]; rfl
  have e2 : ([42] == s.toList) = false := by rw [hs]; rfl
  have e3 : ([47] == s.toList) = false := by rw [hs]; rfl
  have e4 : ([104, 117, 108, 108] == s.toList) = false := by rw [hs]; rfl
  have e5 : ([109, 101, 101, 116] == s.toList) = false := by rw [hs]; rfl
  clear hr hs
  have i0 := c_op0
  have i1 := c_op1
  have i2 := c_op2
  have i3 := c_op3
  have i4 := c_op4
  have i5 := c_op5
  go_enter Tryz.func71, Tryz.ntmps71
  go_wp2_with fail
  have B0 := blk_old (blk_old (blk_new w (Obj.cells #[.float .f64 al, .float .f64 ah] 67)) (Obj.cells #[.float .f64 bl, .float .f64 bh] 67)) (Obj.cells #[.float .f64 0, .float .f64 0] 67)
  have B1 := blk_old (blk_new (w.alloc (Obj.cells #[.float .f64 al, .float .f64 ah] 67)) (Obj.cells #[.float .f64 bl, .float .f64 bh] 67)) (Obj.cells #[.float .f64 0, .float .f64 0] 67)
  have B2 := blk_new ((w.alloc (Obj.cells #[.float .f64 al, .float .f64 ah] 67)).alloc (Obj.cells #[.float .f64 bl, .float .f64 bh] 67)) (Obj.cells #[.float .f64 0, .float .f64 0] 67)
  have hW : Below w.heap.size w (((w.alloc (Obj.cells #[.float .f64 al, .float .f64 ah] 67)).alloc (Obj.cells #[.float .f64 bl, .float .f64 bh] 67)).alloc (Obj.cells #[.float .f64 0, .float .f64 0] 67)) := (((Below.refl _ _).alloc (Nat.le_refl _) _).alloc (by simp) _).alloc (by simp; omega) _
  simp only [World.size_alloc] at B1 B2
  generalize (((w.alloc (Obj.cells #[.float .f64 al, .float .f64 ah] 67)).alloc (Obj.cells #[.float .f64 bl, .float .f64 bh] 67)).alloc (Obj.cells #[.float .f64 0, .float .f64 0] 67)) = W2 at *
  refine Calls.mono (HO.out _) ?_
  rintro e w1 ⟨rfl, hb1⟩
  have HW1 : Hid (Below w.heap.size w w1) := hW.trans (hb1.mono hW.size)
  have HK1 : Hid (w1.heap[w.heap.size + 1 + 1]? = _) := blk_below B2 hb1
  have HA1 : Hid (w1.heap[w.heap.size]? = _) := blk_below B0 hb1
  have HB1 : Hid (w1.heap[w.heap.size + 1]? = _) := blk_below B1 hb1
  clear B0 B1 B2 hW hb1 HO
  go_wp2_with fail
  refine wp_loop_rounds 7 ?_
  obtain ⟨a0, a1, -, -⟩ := blk2 HA1.out
  obtain ⟨b0, b1, -, -⟩ := blk2 HB1.out
  have la := lt_of_row HA1.out
  have lb := lt_of_row HB1.out
  rw [rounds_succ]
  go_wp2_with fail
  have hX : Below w.heap.size w (w1.alloc (Obj.cells #[.string ⟨#[43]⟩, .func (.func 44) #[] #[]] 171)) := HW1.out.alloc HW1.out.size _
  have hK := blk_old HK1.out (Obj.cells #[.string ⟨#[43]⟩, .func (.func 44) #[] #[]] 171)
  clear a0 a1 b0 b1 la lb HK1 HA1 HB1 i0 i1 i2 i3 i4 i5 e0 e1 e2 e3 e4 e5
  generalize (w1.alloc (Obj.cells #[.string ⟨#[43]⟩, .func (.func 44) #[] #[]] 171)) = W5 at *
  refine Calls.mono (HF.out _ hX) ?_
  rintro e w9 ⟨v, rfl, hE, hb9⟩
  have HE : Hid (ErrIs A w9 v _ _) := hE
  have HB9 : Hid (Below w.heap.size w w9) := hX.trans (hb9.mono hX.size)
  have HK9 : Hid (w9.heap[w.heap.size + 1 + 1]? = _) := blk_below hK hb9
  obtain ⟨k0, k1, k2, k3⟩ := blk2 HK9.out
  clear hE hb9 hX hK HF HS HW1
  go_wp2_with fail
  have hBX : BoxT w9 (w.heap.size + 1 + 1) 67 := BoxT.of HK9.out
  refine bodyPost_ret (v := .tuple #[.agg #[.float .f64 r1, .float .f64 r2], v]) (by simp [results, Tryz.results71, go_sem, k0, k1]) rfl ?_
  exact ⟨v, rfl, (HE.out.set hBX (by decide)).set hBX.set (by decide), (HB9.out.setCell (by simp; omega) _).setCell (by simp; omega) _⟩

set_option maxHeartbeats 4000000 in
set_option maxRecDepth 100000 in
theorem apply_sub (A : Nat → Addr) (s : ByteArray) (al ah bl bh : Nat) (r1 r2 r3 : Nat) (rs : ByteArray) (w : World) (hS : Sents A w) (hs : s.toList = [45]) (hr : ∀ W, Sents A W → Calls Tryz.prog 45 #[.agg #[.float .f64 al, .float .f64 ah], .agg #[.float .f64 bl, .float .f64 bh]] W fun ev w' => OpR A W r1 r2 r3 rs ev w') :
    Calls Tryz.prog 71 #[.string s, .agg #[.float .f64 al, .float .f64 ah], .agg #[.float .f64 bl, .float .f64 bh]] w fun ev w' => OpR A w r1 r2 r3 rs ev w' := by
  have HS : Hid (Sents A w) := hS
  have HO : Hid (∀ W, Calls Tryz.prog 126 #[] W fun e w' => e = .returned (.agg #[.string ⟨#[43]⟩, .func (.func 44) #[] #[], .string ⟨#[45]⟩, .func (.func 45) #[] #[], .string ⟨#[42]⟩, .func (.func 46) #[] #[], .string ⟨#[47]⟩, .func (.func 47) #[] #[], .string ⟨#[104, 117, 108, 108]⟩, .func (.func 166) #[] #[], .string ⟨#[109, 101, 101, 116]⟩, .func (.func 43) #[] #[]]) ∧ Below W.heap.size W w') := operations_any
  clear hS
  have HF : Hid (∀ W, Below w.heap.size w W → Calls Tryz.prog 45 #[.agg #[.float .f64 al, .float .f64 ah], .agg #[.float .f64 bl, .float .f64 bh]] W fun ev w' => OpR A W r1 r2 r3 rs ev w') := fun W hb => hr W (HS.out.below hb (Nat.le_refl _))
  have e0 : ([43] == s.toList) = false := by rw [hs]; rfl
  have e1 : ([45] == s.toList) = true := by rw [hs]; rfl
  have e2 : ([42] == s.toList) = false := by rw [hs]; rfl
  have e3 : ([47] == s.toList) = false := by rw [hs]; rfl
  have e4 : ([104, 117, 108, 108] == s.toList) = false := by rw [hs]; rfl
  have e5 : ([109, 101, 101, 116] == s.toList) = false := by rw [hs]; rfl
  clear hr hs
  have i0 := c_op0
  have i1 := c_op1
  have i2 := c_op2
  have i3 := c_op3
  have i4 := c_op4
  have i5 := c_op5
  go_enter Tryz.func71, Tryz.ntmps71
  go_wp2_with fail
  have B0 := blk_old (blk_old (blk_new w (Obj.cells #[.float .f64 al, .float .f64 ah] 67)) (Obj.cells #[.float .f64 bl, .float .f64 bh] 67)) (Obj.cells #[.float .f64 0, .float .f64 0] 67)
  have B1 := blk_old (blk_new (w.alloc (Obj.cells #[.float .f64 al, .float .f64 ah] 67)) (Obj.cells #[.float .f64 bl, .float .f64 bh] 67)) (Obj.cells #[.float .f64 0, .float .f64 0] 67)
  have B2 := blk_new ((w.alloc (Obj.cells #[.float .f64 al, .float .f64 ah] 67)).alloc (Obj.cells #[.float .f64 bl, .float .f64 bh] 67)) (Obj.cells #[.float .f64 0, .float .f64 0] 67)
  have hW : Below w.heap.size w (((w.alloc (Obj.cells #[.float .f64 al, .float .f64 ah] 67)).alloc (Obj.cells #[.float .f64 bl, .float .f64 bh] 67)).alloc (Obj.cells #[.float .f64 0, .float .f64 0] 67)) := (((Below.refl _ _).alloc (Nat.le_refl _) _).alloc (by simp) _).alloc (by simp; omega) _
  simp only [World.size_alloc] at B1 B2
  generalize (((w.alloc (Obj.cells #[.float .f64 al, .float .f64 ah] 67)).alloc (Obj.cells #[.float .f64 bl, .float .f64 bh] 67)).alloc (Obj.cells #[.float .f64 0, .float .f64 0] 67)) = W2 at *
  refine Calls.mono (HO.out _) ?_
  rintro e w1 ⟨rfl, hb1⟩
  have HW1 : Hid (Below w.heap.size w w1) := hW.trans (hb1.mono hW.size)
  have HK1 : Hid (w1.heap[w.heap.size + 1 + 1]? = _) := blk_below B2 hb1
  have HA1 : Hid (w1.heap[w.heap.size]? = _) := blk_below B0 hb1
  have HB1 : Hid (w1.heap[w.heap.size + 1]? = _) := blk_below B1 hb1
  clear B0 B1 B2 hW hb1 HO
  go_wp2_with fail
  refine wp_loop_rounds 7 ?_
  rw [rounds_succ]
  go_wp2_with fail
  have HW1 : Hid (Below w.heap.size w (w1.alloc (Obj.cells #[.string ⟨#[43]⟩, .func (.func 44) #[] #[]] 171))) := HW1.out.alloc HW1.out.size _
  have HK1 : Hid ((w1.alloc (Obj.cells #[.string ⟨#[43]⟩, .func (.func 44) #[] #[]] 171)).heap[w.heap.size + 1 + 1]? = _) := blk_old HK1.out _
  have HA1 : Hid ((w1.alloc (Obj.cells #[.string ⟨#[43]⟩, .func (.func 44) #[] #[]] 171)).heap[w.heap.size]? = _) := blk_old HA1.out _
  have HB1 : Hid ((w1.alloc (Obj.cells #[.string ⟨#[43]⟩, .func (.func 44) #[] #[]] 171)).heap[w.heap.size + 1]? = _) := blk_old HB1.out _
  generalize w1.alloc (Obj.cells #[.string ⟨#[43]⟩, .func (.func 44) #[] #[]] 171) = v1 at *
  obtain ⟨a0, a1, -, -⟩ := blk2 HA1.out
  obtain ⟨b0, b1, -, -⟩ := blk2 HB1.out
  have la := lt_of_row HA1.out
  have lb := lt_of_row HB1.out
  rw [rounds_succ]
  go_wp2_with fail
  have hX : Below w.heap.size w (v1.alloc (Obj.cells #[.string ⟨#[45]⟩, .func (.func 45) #[] #[]] 171)) := HW1.out.alloc HW1.out.size _
  have hK := blk_old HK1.out (Obj.cells #[.string ⟨#[45]⟩, .func (.func 45) #[] #[]] 171)
  clear a0 a1 b0 b1 la lb HK1 HA1 HB1 i0 i1 i2 i3 i4 i5 e0 e1 e2 e3 e4 e5
  generalize (v1.alloc (Obj.cells #[.string ⟨#[45]⟩, .func (.func 45) #[] #[]] 171)) = W5 at *
  refine Calls.mono (HF.out _ hX) ?_
  rintro e w9 ⟨v, rfl, hE, hb9⟩
  have HE : Hid (ErrIs A w9 v _ _) := hE
  have HB9 : Hid (Below w.heap.size w w9) := hX.trans (hb9.mono hX.size)
  have HK9 : Hid (w9.heap[w.heap.size + 1 + 1]? = _) := blk_below hK hb9
  obtain ⟨k0, k1, k2, k3⟩ := blk2 HK9.out
  clear hE hb9 hX hK HF HS HW1
  go_wp2_with fail
  have hBX : BoxT w9 (w.heap.size + 1 + 1) 67 := BoxT.of HK9.out
  refine bodyPost_ret (v := .tuple #[.agg #[.float .f64 r1, .float .f64 r2], v]) (by simp [results, Tryz.results71, go_sem, k0, k1]) rfl ?_
  exact ⟨v, rfl, (HE.out.set hBX (by decide)).set hBX.set (by decide), (HB9.out.setCell (by simp; omega) _).setCell (by simp; omega) _⟩

set_option maxHeartbeats 4000000 in
set_option maxRecDepth 100000 in
theorem apply_mul (A : Nat → Addr) (s : ByteArray) (al ah bl bh : Nat) (r1 r2 r3 : Nat) (rs : ByteArray) (w : World) (hS : Sents A w) (hs : s.toList = [42]) (hr : ∀ W, Sents A W → Calls Tryz.prog 46 #[.agg #[.float .f64 al, .float .f64 ah], .agg #[.float .f64 bl, .float .f64 bh]] W fun ev w' => OpR A W r1 r2 r3 rs ev w') :
    Calls Tryz.prog 71 #[.string s, .agg #[.float .f64 al, .float .f64 ah], .agg #[.float .f64 bl, .float .f64 bh]] w fun ev w' => OpR A w r1 r2 r3 rs ev w' := by
  have HS : Hid (Sents A w) := hS
  have HO : Hid (∀ W, Calls Tryz.prog 126 #[] W fun e w' => e = .returned (.agg #[.string ⟨#[43]⟩, .func (.func 44) #[] #[], .string ⟨#[45]⟩, .func (.func 45) #[] #[], .string ⟨#[42]⟩, .func (.func 46) #[] #[], .string ⟨#[47]⟩, .func (.func 47) #[] #[], .string ⟨#[104, 117, 108, 108]⟩, .func (.func 166) #[] #[], .string ⟨#[109, 101, 101, 116]⟩, .func (.func 43) #[] #[]]) ∧ Below W.heap.size W w') := operations_any
  clear hS
  have HF : Hid (∀ W, Below w.heap.size w W → Calls Tryz.prog 46 #[.agg #[.float .f64 al, .float .f64 ah], .agg #[.float .f64 bl, .float .f64 bh]] W fun ev w' => OpR A W r1 r2 r3 rs ev w') := fun W hb => hr W (HS.out.below hb (Nat.le_refl _))
  have e0 : ([43] == s.toList) = false := by rw [hs]; rfl
  have e1 : ([45] == s.toList) = false := by rw [hs]; rfl
  have e2 : ([42] == s.toList) = true := by rw [hs]; rfl
  have e3 : ([47] == s.toList) = false := by rw [hs]; rfl
  have e4 : ([104, 117, 108, 108] == s.toList) = false := by rw [hs]; rfl
  have e5 : ([109, 101, 101, 116] == s.toList) = false := by rw [hs]; rfl
  clear hr hs
  have i0 := c_op0
  have i1 := c_op1
  have i2 := c_op2
  have i3 := c_op3
  have i4 := c_op4
  have i5 := c_op5
  go_enter Tryz.func71, Tryz.ntmps71
  go_wp2_with fail
  have B0 := blk_old (blk_old (blk_new w (Obj.cells #[.float .f64 al, .float .f64 ah] 67)) (Obj.cells #[.float .f64 bl, .float .f64 bh] 67)) (Obj.cells #[.float .f64 0, .float .f64 0] 67)
  have B1 := blk_old (blk_new (w.alloc (Obj.cells #[.float .f64 al, .float .f64 ah] 67)) (Obj.cells #[.float .f64 bl, .float .f64 bh] 67)) (Obj.cells #[.float .f64 0, .float .f64 0] 67)
  have B2 := blk_new ((w.alloc (Obj.cells #[.float .f64 al, .float .f64 ah] 67)).alloc (Obj.cells #[.float .f64 bl, .float .f64 bh] 67)) (Obj.cells #[.float .f64 0, .float .f64 0] 67)
  have hW : Below w.heap.size w (((w.alloc (Obj.cells #[.float .f64 al, .float .f64 ah] 67)).alloc (Obj.cells #[.float .f64 bl, .float .f64 bh] 67)).alloc (Obj.cells #[.float .f64 0, .float .f64 0] 67)) := (((Below.refl _ _).alloc (Nat.le_refl _) _).alloc (by simp) _).alloc (by simp; omega) _
  simp only [World.size_alloc] at B1 B2
  generalize (((w.alloc (Obj.cells #[.float .f64 al, .float .f64 ah] 67)).alloc (Obj.cells #[.float .f64 bl, .float .f64 bh] 67)).alloc (Obj.cells #[.float .f64 0, .float .f64 0] 67)) = W2 at *
  refine Calls.mono (HO.out _) ?_
  rintro e w1 ⟨rfl, hb1⟩
  have HW1 : Hid (Below w.heap.size w w1) := hW.trans (hb1.mono hW.size)
  have HK1 : Hid (w1.heap[w.heap.size + 1 + 1]? = _) := blk_below B2 hb1
  have HA1 : Hid (w1.heap[w.heap.size]? = _) := blk_below B0 hb1
  have HB1 : Hid (w1.heap[w.heap.size + 1]? = _) := blk_below B1 hb1
  clear B0 B1 B2 hW hb1 HO
  go_wp2_with fail
  refine wp_loop_rounds 7 ?_
  rw [rounds_succ]
  go_wp2_with fail
  have HW1 : Hid (Below w.heap.size w (w1.alloc (Obj.cells #[.string ⟨#[43]⟩, .func (.func 44) #[] #[]] 171))) := HW1.out.alloc HW1.out.size _
  have HK1 : Hid ((w1.alloc (Obj.cells #[.string ⟨#[43]⟩, .func (.func 44) #[] #[]] 171)).heap[w.heap.size + 1 + 1]? = _) := blk_old HK1.out _
  have HA1 : Hid ((w1.alloc (Obj.cells #[.string ⟨#[43]⟩, .func (.func 44) #[] #[]] 171)).heap[w.heap.size]? = _) := blk_old HA1.out _
  have HB1 : Hid ((w1.alloc (Obj.cells #[.string ⟨#[43]⟩, .func (.func 44) #[] #[]] 171)).heap[w.heap.size + 1]? = _) := blk_old HB1.out _
  generalize w1.alloc (Obj.cells #[.string ⟨#[43]⟩, .func (.func 44) #[] #[]] 171) = v1 at *
  rw [rounds_succ]
  go_wp2_with fail
  have HW1 : Hid (Below w.heap.size w (v1.alloc (Obj.cells #[.string ⟨#[45]⟩, .func (.func 45) #[] #[]] 171))) := HW1.out.alloc HW1.out.size _
  have HK1 : Hid ((v1.alloc (Obj.cells #[.string ⟨#[45]⟩, .func (.func 45) #[] #[]] 171)).heap[w.heap.size + 1 + 1]? = _) := blk_old HK1.out _
  have HA1 : Hid ((v1.alloc (Obj.cells #[.string ⟨#[45]⟩, .func (.func 45) #[] #[]] 171)).heap[w.heap.size]? = _) := blk_old HA1.out _
  have HB1 : Hid ((v1.alloc (Obj.cells #[.string ⟨#[45]⟩, .func (.func 45) #[] #[]] 171)).heap[w.heap.size + 1]? = _) := blk_old HB1.out _
  generalize v1.alloc (Obj.cells #[.string ⟨#[45]⟩, .func (.func 45) #[] #[]] 171) = v2 at *
  obtain ⟨a0, a1, -, -⟩ := blk2 HA1.out
  obtain ⟨b0, b1, -, -⟩ := blk2 HB1.out
  have la := lt_of_row HA1.out
  have lb := lt_of_row HB1.out
  rw [rounds_succ]
  go_wp2_with fail
  have hX : Below w.heap.size w (v2.alloc (Obj.cells #[.string ⟨#[42]⟩, .func (.func 46) #[] #[]] 171)) := HW1.out.alloc HW1.out.size _
  have hK := blk_old HK1.out (Obj.cells #[.string ⟨#[42]⟩, .func (.func 46) #[] #[]] 171)
  clear a0 a1 b0 b1 la lb HK1 HA1 HB1 i0 i1 i2 i3 i4 i5 e0 e1 e2 e3 e4 e5
  generalize (v2.alloc (Obj.cells #[.string ⟨#[42]⟩, .func (.func 46) #[] #[]] 171)) = W5 at *
  refine Calls.mono (HF.out _ hX) ?_
  rintro e w9 ⟨v, rfl, hE, hb9⟩
  have HE : Hid (ErrIs A w9 v _ _) := hE
  have HB9 : Hid (Below w.heap.size w w9) := hX.trans (hb9.mono hX.size)
  have HK9 : Hid (w9.heap[w.heap.size + 1 + 1]? = _) := blk_below hK hb9
  obtain ⟨k0, k1, k2, k3⟩ := blk2 HK9.out
  clear hE hb9 hX hK HF HS HW1
  go_wp2_with fail
  have hBX : BoxT w9 (w.heap.size + 1 + 1) 67 := BoxT.of HK9.out
  refine bodyPost_ret (v := .tuple #[.agg #[.float .f64 r1, .float .f64 r2], v]) (by simp [results, Tryz.results71, go_sem, k0, k1]) rfl ?_
  exact ⟨v, rfl, (HE.out.set hBX (by decide)).set hBX.set (by decide), (HB9.out.setCell (by simp; omega) _).setCell (by simp; omega) _⟩

set_option maxHeartbeats 4000000 in
set_option maxRecDepth 100000 in
theorem apply_div (A : Nat → Addr) (s : ByteArray) (al ah bl bh : Nat) (r1 r2 r3 : Nat) (rs : ByteArray) (w : World) (hS : Sents A w) (hs : s.toList = [47]) (hr : ∀ W, Sents A W → Calls Tryz.prog 47 #[.agg #[.float .f64 al, .float .f64 ah], .agg #[.float .f64 bl, .float .f64 bh]] W fun ev w' => OpR A W r1 r2 r3 rs ev w') :
    Calls Tryz.prog 71 #[.string s, .agg #[.float .f64 al, .float .f64 ah], .agg #[.float .f64 bl, .float .f64 bh]] w fun ev w' => OpR A w r1 r2 r3 rs ev w' := by
  have HS : Hid (Sents A w) := hS
  have HO : Hid (∀ W, Calls Tryz.prog 126 #[] W fun e w' => e = .returned (.agg #[.string ⟨#[43]⟩, .func (.func 44) #[] #[], .string ⟨#[45]⟩, .func (.func 45) #[] #[], .string ⟨#[42]⟩, .func (.func 46) #[] #[], .string ⟨#[47]⟩, .func (.func 47) #[] #[], .string ⟨#[104, 117, 108, 108]⟩, .func (.func 166) #[] #[], .string ⟨#[109, 101, 101, 116]⟩, .func (.func 43) #[] #[]]) ∧ Below W.heap.size W w') := operations_any
  clear hS
  have HF : Hid (∀ W, Below w.heap.size w W → Calls Tryz.prog 47 #[.agg #[.float .f64 al, .float .f64 ah], .agg #[.float .f64 bl, .float .f64 bh]] W fun ev w' => OpR A W r1 r2 r3 rs ev w') := fun W hb => hr W (HS.out.below hb (Nat.le_refl _))
  have e0 : ([43] == s.toList) = false := by rw [hs]; rfl
  have e1 : ([45] == s.toList) = false := by rw [hs]; rfl
  have e2 : ([42] == s.toList) = false := by rw [hs]; rfl
  have e3 : ([47] == s.toList) = true := by rw [hs]; rfl
  have e4 : ([104, 117, 108, 108] == s.toList) = false := by rw [hs]; rfl
  have e5 : ([109, 101, 101, 116] == s.toList) = false := by rw [hs]; rfl
  clear hr hs
  have i0 := c_op0
  have i1 := c_op1
  have i2 := c_op2
  have i3 := c_op3
  have i4 := c_op4
  have i5 := c_op5
  go_enter Tryz.func71, Tryz.ntmps71
  go_wp2_with fail
  have B0 := blk_old (blk_old (blk_new w (Obj.cells #[.float .f64 al, .float .f64 ah] 67)) (Obj.cells #[.float .f64 bl, .float .f64 bh] 67)) (Obj.cells #[.float .f64 0, .float .f64 0] 67)
  have B1 := blk_old (blk_new (w.alloc (Obj.cells #[.float .f64 al, .float .f64 ah] 67)) (Obj.cells #[.float .f64 bl, .float .f64 bh] 67)) (Obj.cells #[.float .f64 0, .float .f64 0] 67)
  have B2 := blk_new ((w.alloc (Obj.cells #[.float .f64 al, .float .f64 ah] 67)).alloc (Obj.cells #[.float .f64 bl, .float .f64 bh] 67)) (Obj.cells #[.float .f64 0, .float .f64 0] 67)
  have hW : Below w.heap.size w (((w.alloc (Obj.cells #[.float .f64 al, .float .f64 ah] 67)).alloc (Obj.cells #[.float .f64 bl, .float .f64 bh] 67)).alloc (Obj.cells #[.float .f64 0, .float .f64 0] 67)) := (((Below.refl _ _).alloc (Nat.le_refl _) _).alloc (by simp) _).alloc (by simp; omega) _
  simp only [World.size_alloc] at B1 B2
  generalize (((w.alloc (Obj.cells #[.float .f64 al, .float .f64 ah] 67)).alloc (Obj.cells #[.float .f64 bl, .float .f64 bh] 67)).alloc (Obj.cells #[.float .f64 0, .float .f64 0] 67)) = W2 at *
  refine Calls.mono (HO.out _) ?_
  rintro e w1 ⟨rfl, hb1⟩
  have HW1 : Hid (Below w.heap.size w w1) := hW.trans (hb1.mono hW.size)
  have HK1 : Hid (w1.heap[w.heap.size + 1 + 1]? = _) := blk_below B2 hb1
  have HA1 : Hid (w1.heap[w.heap.size]? = _) := blk_below B0 hb1
  have HB1 : Hid (w1.heap[w.heap.size + 1]? = _) := blk_below B1 hb1
  clear B0 B1 B2 hW hb1 HO
  go_wp2_with fail
  refine wp_loop_rounds 7 ?_
  rw [rounds_succ]
  go_wp2_with fail
  have HW1 : Hid (Below w.heap.size w (w1.alloc (Obj.cells #[.string ⟨#[43]⟩, .func (.func 44) #[] #[]] 171))) := HW1.out.alloc HW1.out.size _
  have HK1 : Hid ((w1.alloc (Obj.cells #[.string ⟨#[43]⟩, .func (.func 44) #[] #[]] 171)).heap[w.heap.size + 1 + 1]? = _) := blk_old HK1.out _
  have HA1 : Hid ((w1.alloc (Obj.cells #[.string ⟨#[43]⟩, .func (.func 44) #[] #[]] 171)).heap[w.heap.size]? = _) := blk_old HA1.out _
  have HB1 : Hid ((w1.alloc (Obj.cells #[.string ⟨#[43]⟩, .func (.func 44) #[] #[]] 171)).heap[w.heap.size + 1]? = _) := blk_old HB1.out _
  generalize w1.alloc (Obj.cells #[.string ⟨#[43]⟩, .func (.func 44) #[] #[]] 171) = v1 at *
  rw [rounds_succ]
  go_wp2_with fail
  have HW1 : Hid (Below w.heap.size w (v1.alloc (Obj.cells #[.string ⟨#[45]⟩, .func (.func 45) #[] #[]] 171))) := HW1.out.alloc HW1.out.size _
  have HK1 : Hid ((v1.alloc (Obj.cells #[.string ⟨#[45]⟩, .func (.func 45) #[] #[]] 171)).heap[w.heap.size + 1 + 1]? = _) := blk_old HK1.out _
  have HA1 : Hid ((v1.alloc (Obj.cells #[.string ⟨#[45]⟩, .func (.func 45) #[] #[]] 171)).heap[w.heap.size]? = _) := blk_old HA1.out _
  have HB1 : Hid ((v1.alloc (Obj.cells #[.string ⟨#[45]⟩, .func (.func 45) #[] #[]] 171)).heap[w.heap.size + 1]? = _) := blk_old HB1.out _
  generalize v1.alloc (Obj.cells #[.string ⟨#[45]⟩, .func (.func 45) #[] #[]] 171) = v2 at *
  rw [rounds_succ]
  go_wp2_with fail
  have HW1 : Hid (Below w.heap.size w (v2.alloc (Obj.cells #[.string ⟨#[42]⟩, .func (.func 46) #[] #[]] 171))) := HW1.out.alloc HW1.out.size _
  have HK1 : Hid ((v2.alloc (Obj.cells #[.string ⟨#[42]⟩, .func (.func 46) #[] #[]] 171)).heap[w.heap.size + 1 + 1]? = _) := blk_old HK1.out _
  have HA1 : Hid ((v2.alloc (Obj.cells #[.string ⟨#[42]⟩, .func (.func 46) #[] #[]] 171)).heap[w.heap.size]? = _) := blk_old HA1.out _
  have HB1 : Hid ((v2.alloc (Obj.cells #[.string ⟨#[42]⟩, .func (.func 46) #[] #[]] 171)).heap[w.heap.size + 1]? = _) := blk_old HB1.out _
  generalize v2.alloc (Obj.cells #[.string ⟨#[42]⟩, .func (.func 46) #[] #[]] 171) = v3 at *
  obtain ⟨a0, a1, -, -⟩ := blk2 HA1.out
  obtain ⟨b0, b1, -, -⟩ := blk2 HB1.out
  have la := lt_of_row HA1.out
  have lb := lt_of_row HB1.out
  rw [rounds_succ]
  go_wp2_with fail
  have hX : Below w.heap.size w (v3.alloc (Obj.cells #[.string ⟨#[47]⟩, .func (.func 47) #[] #[]] 171)) := HW1.out.alloc HW1.out.size _
  have hK := blk_old HK1.out (Obj.cells #[.string ⟨#[47]⟩, .func (.func 47) #[] #[]] 171)
  clear a0 a1 b0 b1 la lb HK1 HA1 HB1 i0 i1 i2 i3 i4 i5 e0 e1 e2 e3 e4 e5
  generalize (v3.alloc (Obj.cells #[.string ⟨#[47]⟩, .func (.func 47) #[] #[]] 171)) = W5 at *
  refine Calls.mono (HF.out _ hX) ?_
  rintro e w9 ⟨v, rfl, hE, hb9⟩
  have HE : Hid (ErrIs A w9 v _ _) := hE
  have HB9 : Hid (Below w.heap.size w w9) := hX.trans (hb9.mono hX.size)
  have HK9 : Hid (w9.heap[w.heap.size + 1 + 1]? = _) := blk_below hK hb9
  obtain ⟨k0, k1, k2, k3⟩ := blk2 HK9.out
  clear hE hb9 hX hK HF HS HW1
  go_wp2_with fail
  have hBX : BoxT w9 (w.heap.size + 1 + 1) 67 := BoxT.of HK9.out
  refine bodyPost_ret (v := .tuple #[.agg #[.float .f64 r1, .float .f64 r2], v]) (by simp [results, Tryz.results71, go_sem, k0, k1]) rfl ?_
  exact ⟨v, rfl, (HE.out.set hBX (by decide)).set hBX.set (by decide), (HB9.out.setCell (by simp; omega) _).setCell (by simp; omega) _⟩

set_option maxHeartbeats 4000000 in
set_option maxRecDepth 100000 in
theorem apply_hull (A : Nat → Addr) (s : ByteArray) (al ah bl bh : Nat) (r1 r2 r3 : Nat) (rs : ByteArray) (w : World) (hS : Sents A w) (hs : s.toList = [104, 117, 108, 108]) (hr : ∀ W, Sents A W → Calls Tryz.prog 166 #[.agg #[.float .f64 al, .float .f64 ah], .agg #[.float .f64 bl, .float .f64 bh]] W fun ev w' => OpR A W r1 r2 r3 rs ev w') :
    Calls Tryz.prog 71 #[.string s, .agg #[.float .f64 al, .float .f64 ah], .agg #[.float .f64 bl, .float .f64 bh]] w fun ev w' => OpR A w r1 r2 r3 rs ev w' := by
  have HS : Hid (Sents A w) := hS
  have HO : Hid (∀ W, Calls Tryz.prog 126 #[] W fun e w' => e = .returned (.agg #[.string ⟨#[43]⟩, .func (.func 44) #[] #[], .string ⟨#[45]⟩, .func (.func 45) #[] #[], .string ⟨#[42]⟩, .func (.func 46) #[] #[], .string ⟨#[47]⟩, .func (.func 47) #[] #[], .string ⟨#[104, 117, 108, 108]⟩, .func (.func 166) #[] #[], .string ⟨#[109, 101, 101, 116]⟩, .func (.func 43) #[] #[]]) ∧ Below W.heap.size W w') := operations_any
  clear hS
  have HF : Hid (∀ W, Below w.heap.size w W → Calls Tryz.prog 166 #[.agg #[.float .f64 al, .float .f64 ah], .agg #[.float .f64 bl, .float .f64 bh]] W fun ev w' => OpR A W r1 r2 r3 rs ev w') := fun W hb => hr W (HS.out.below hb (Nat.le_refl _))
  have e0 : ([43] == s.toList) = false := by rw [hs]; rfl
  have e1 : ([45] == s.toList) = false := by rw [hs]; rfl
  have e2 : ([42] == s.toList) = false := by rw [hs]; rfl
  have e3 : ([47] == s.toList) = false := by rw [hs]; rfl
  have e4 : ([104, 117, 108, 108] == s.toList) = true := by rw [hs]; rfl
  have e5 : ([109, 101, 101, 116] == s.toList) = false := by rw [hs]; rfl
  clear hr hs
  have i0 := c_op0
  have i1 := c_op1
  have i2 := c_op2
  have i3 := c_op3
  have i4 := c_op4
  have i5 := c_op5
  go_enter Tryz.func71, Tryz.ntmps71
  go_wp2_with fail
  have B0 := blk_old (blk_old (blk_new w (Obj.cells #[.float .f64 al, .float .f64 ah] 67)) (Obj.cells #[.float .f64 bl, .float .f64 bh] 67)) (Obj.cells #[.float .f64 0, .float .f64 0] 67)
  have B1 := blk_old (blk_new (w.alloc (Obj.cells #[.float .f64 al, .float .f64 ah] 67)) (Obj.cells #[.float .f64 bl, .float .f64 bh] 67)) (Obj.cells #[.float .f64 0, .float .f64 0] 67)
  have B2 := blk_new ((w.alloc (Obj.cells #[.float .f64 al, .float .f64 ah] 67)).alloc (Obj.cells #[.float .f64 bl, .float .f64 bh] 67)) (Obj.cells #[.float .f64 0, .float .f64 0] 67)
  have hW : Below w.heap.size w (((w.alloc (Obj.cells #[.float .f64 al, .float .f64 ah] 67)).alloc (Obj.cells #[.float .f64 bl, .float .f64 bh] 67)).alloc (Obj.cells #[.float .f64 0, .float .f64 0] 67)) := (((Below.refl _ _).alloc (Nat.le_refl _) _).alloc (by simp) _).alloc (by simp; omega) _
  simp only [World.size_alloc] at B1 B2
  generalize (((w.alloc (Obj.cells #[.float .f64 al, .float .f64 ah] 67)).alloc (Obj.cells #[.float .f64 bl, .float .f64 bh] 67)).alloc (Obj.cells #[.float .f64 0, .float .f64 0] 67)) = W2 at *
  refine Calls.mono (HO.out _) ?_
  rintro e w1 ⟨rfl, hb1⟩
  have HW1 : Hid (Below w.heap.size w w1) := hW.trans (hb1.mono hW.size)
  have HK1 : Hid (w1.heap[w.heap.size + 1 + 1]? = _) := blk_below B2 hb1
  have HA1 : Hid (w1.heap[w.heap.size]? = _) := blk_below B0 hb1
  have HB1 : Hid (w1.heap[w.heap.size + 1]? = _) := blk_below B1 hb1
  clear B0 B1 B2 hW hb1 HO
  go_wp2_with fail
  refine wp_loop_rounds 7 ?_
  rw [rounds_succ]
  go_wp2_with fail
  have HW1 : Hid (Below w.heap.size w (w1.alloc (Obj.cells #[.string ⟨#[43]⟩, .func (.func 44) #[] #[]] 171))) := HW1.out.alloc HW1.out.size _
  have HK1 : Hid ((w1.alloc (Obj.cells #[.string ⟨#[43]⟩, .func (.func 44) #[] #[]] 171)).heap[w.heap.size + 1 + 1]? = _) := blk_old HK1.out _
  have HA1 : Hid ((w1.alloc (Obj.cells #[.string ⟨#[43]⟩, .func (.func 44) #[] #[]] 171)).heap[w.heap.size]? = _) := blk_old HA1.out _
  have HB1 : Hid ((w1.alloc (Obj.cells #[.string ⟨#[43]⟩, .func (.func 44) #[] #[]] 171)).heap[w.heap.size + 1]? = _) := blk_old HB1.out _
  generalize w1.alloc (Obj.cells #[.string ⟨#[43]⟩, .func (.func 44) #[] #[]] 171) = v1 at *
  rw [rounds_succ]
  go_wp2_with fail
  have HW1 : Hid (Below w.heap.size w (v1.alloc (Obj.cells #[.string ⟨#[45]⟩, .func (.func 45) #[] #[]] 171))) := HW1.out.alloc HW1.out.size _
  have HK1 : Hid ((v1.alloc (Obj.cells #[.string ⟨#[45]⟩, .func (.func 45) #[] #[]] 171)).heap[w.heap.size + 1 + 1]? = _) := blk_old HK1.out _
  have HA1 : Hid ((v1.alloc (Obj.cells #[.string ⟨#[45]⟩, .func (.func 45) #[] #[]] 171)).heap[w.heap.size]? = _) := blk_old HA1.out _
  have HB1 : Hid ((v1.alloc (Obj.cells #[.string ⟨#[45]⟩, .func (.func 45) #[] #[]] 171)).heap[w.heap.size + 1]? = _) := blk_old HB1.out _
  generalize v1.alloc (Obj.cells #[.string ⟨#[45]⟩, .func (.func 45) #[] #[]] 171) = v2 at *
  rw [rounds_succ]
  go_wp2_with fail
  have HW1 : Hid (Below w.heap.size w (v2.alloc (Obj.cells #[.string ⟨#[42]⟩, .func (.func 46) #[] #[]] 171))) := HW1.out.alloc HW1.out.size _
  have HK1 : Hid ((v2.alloc (Obj.cells #[.string ⟨#[42]⟩, .func (.func 46) #[] #[]] 171)).heap[w.heap.size + 1 + 1]? = _) := blk_old HK1.out _
  have HA1 : Hid ((v2.alloc (Obj.cells #[.string ⟨#[42]⟩, .func (.func 46) #[] #[]] 171)).heap[w.heap.size]? = _) := blk_old HA1.out _
  have HB1 : Hid ((v2.alloc (Obj.cells #[.string ⟨#[42]⟩, .func (.func 46) #[] #[]] 171)).heap[w.heap.size + 1]? = _) := blk_old HB1.out _
  generalize v2.alloc (Obj.cells #[.string ⟨#[42]⟩, .func (.func 46) #[] #[]] 171) = v3 at *
  rw [rounds_succ]
  go_wp2_with fail
  have HW1 : Hid (Below w.heap.size w (v3.alloc (Obj.cells #[.string ⟨#[47]⟩, .func (.func 47) #[] #[]] 171))) := HW1.out.alloc HW1.out.size _
  have HK1 : Hid ((v3.alloc (Obj.cells #[.string ⟨#[47]⟩, .func (.func 47) #[] #[]] 171)).heap[w.heap.size + 1 + 1]? = _) := blk_old HK1.out _
  have HA1 : Hid ((v3.alloc (Obj.cells #[.string ⟨#[47]⟩, .func (.func 47) #[] #[]] 171)).heap[w.heap.size]? = _) := blk_old HA1.out _
  have HB1 : Hid ((v3.alloc (Obj.cells #[.string ⟨#[47]⟩, .func (.func 47) #[] #[]] 171)).heap[w.heap.size + 1]? = _) := blk_old HB1.out _
  generalize v3.alloc (Obj.cells #[.string ⟨#[47]⟩, .func (.func 47) #[] #[]] 171) = v4 at *
  obtain ⟨a0, a1, -, -⟩ := blk2 HA1.out
  obtain ⟨b0, b1, -, -⟩ := blk2 HB1.out
  have la := lt_of_row HA1.out
  have lb := lt_of_row HB1.out
  rw [rounds_succ]
  go_wp2_with fail
  have hX : Below w.heap.size w (v4.alloc (Obj.cells #[.string ⟨#[104, 117, 108, 108]⟩, .func (.func 166) #[] #[]] 171)) := HW1.out.alloc HW1.out.size _
  have hK := blk_old HK1.out (Obj.cells #[.string ⟨#[104, 117, 108, 108]⟩, .func (.func 166) #[] #[]] 171)
  clear a0 a1 b0 b1 la lb HK1 HA1 HB1 i0 i1 i2 i3 i4 i5 e0 e1 e2 e3 e4 e5
  generalize (v4.alloc (Obj.cells #[.string ⟨#[104, 117, 108, 108]⟩, .func (.func 166) #[] #[]] 171)) = W5 at *
  refine Calls.mono (HF.out _ hX) ?_
  rintro e w9 ⟨v, rfl, hE, hb9⟩
  have HE : Hid (ErrIs A w9 v _ _) := hE
  have HB9 : Hid (Below w.heap.size w w9) := hX.trans (hb9.mono hX.size)
  have HK9 : Hid (w9.heap[w.heap.size + 1 + 1]? = _) := blk_below hK hb9
  obtain ⟨k0, k1, k2, k3⟩ := blk2 HK9.out
  clear hE hb9 hX hK HF HS HW1
  go_wp2_with fail
  have hBX : BoxT w9 (w.heap.size + 1 + 1) 67 := BoxT.of HK9.out
  refine bodyPost_ret (v := .tuple #[.agg #[.float .f64 r1, .float .f64 r2], v]) (by simp [results, Tryz.results71, go_sem, k0, k1]) rfl ?_
  exact ⟨v, rfl, (HE.out.set hBX (by decide)).set hBX.set (by decide), (HB9.out.setCell (by simp; omega) _).setCell (by simp; omega) _⟩

set_option maxHeartbeats 4000000 in
set_option maxRecDepth 100000 in
theorem apply_meet (A : Nat → Addr) (s : ByteArray) (al ah bl bh : Nat) (r1 r2 r3 : Nat) (rs : ByteArray) (w : World) (hS : Sents A w) (hs : s.toList = [109, 101, 101, 116]) (hr : ∀ W, Sents A W → Calls Tryz.prog 43 #[.agg #[.float .f64 al, .float .f64 ah], .agg #[.float .f64 bl, .float .f64 bh]] W fun ev w' => OpR A W r1 r2 r3 rs ev w') :
    Calls Tryz.prog 71 #[.string s, .agg #[.float .f64 al, .float .f64 ah], .agg #[.float .f64 bl, .float .f64 bh]] w fun ev w' => OpR A w r1 r2 r3 rs ev w' := by
  have HS : Hid (Sents A w) := hS
  have HO : Hid (∀ W, Calls Tryz.prog 126 #[] W fun e w' => e = .returned (.agg #[.string ⟨#[43]⟩, .func (.func 44) #[] #[], .string ⟨#[45]⟩, .func (.func 45) #[] #[], .string ⟨#[42]⟩, .func (.func 46) #[] #[], .string ⟨#[47]⟩, .func (.func 47) #[] #[], .string ⟨#[104, 117, 108, 108]⟩, .func (.func 166) #[] #[], .string ⟨#[109, 101, 101, 116]⟩, .func (.func 43) #[] #[]]) ∧ Below W.heap.size W w') := operations_any
  clear hS
  have HF : Hid (∀ W, Below w.heap.size w W → Calls Tryz.prog 43 #[.agg #[.float .f64 al, .float .f64 ah], .agg #[.float .f64 bl, .float .f64 bh]] W fun ev w' => OpR A W r1 r2 r3 rs ev w') := fun W hb => hr W (HS.out.below hb (Nat.le_refl _))
  have e0 : ([43] == s.toList) = false := by rw [hs]; rfl
  have e1 : ([45] == s.toList) = false := by rw [hs]; rfl
  have e2 : ([42] == s.toList) = false := by rw [hs]; rfl
  have e3 : ([47] == s.toList) = false := by rw [hs]; rfl
  have e4 : ([104, 117, 108, 108] == s.toList) = false := by rw [hs]; rfl
  have e5 : ([109, 101, 101, 116] == s.toList) = true := by rw [hs]; rfl
  clear hr hs
  have i0 := c_op0
  have i1 := c_op1
  have i2 := c_op2
  have i3 := c_op3
  have i4 := c_op4
  have i5 := c_op5
  go_enter Tryz.func71, Tryz.ntmps71
  go_wp2_with fail
  have B0 := blk_old (blk_old (blk_new w (Obj.cells #[.float .f64 al, .float .f64 ah] 67)) (Obj.cells #[.float .f64 bl, .float .f64 bh] 67)) (Obj.cells #[.float .f64 0, .float .f64 0] 67)
  have B1 := blk_old (blk_new (w.alloc (Obj.cells #[.float .f64 al, .float .f64 ah] 67)) (Obj.cells #[.float .f64 bl, .float .f64 bh] 67)) (Obj.cells #[.float .f64 0, .float .f64 0] 67)
  have B2 := blk_new ((w.alloc (Obj.cells #[.float .f64 al, .float .f64 ah] 67)).alloc (Obj.cells #[.float .f64 bl, .float .f64 bh] 67)) (Obj.cells #[.float .f64 0, .float .f64 0] 67)
  have hW : Below w.heap.size w (((w.alloc (Obj.cells #[.float .f64 al, .float .f64 ah] 67)).alloc (Obj.cells #[.float .f64 bl, .float .f64 bh] 67)).alloc (Obj.cells #[.float .f64 0, .float .f64 0] 67)) := (((Below.refl _ _).alloc (Nat.le_refl _) _).alloc (by simp) _).alloc (by simp; omega) _
  simp only [World.size_alloc] at B1 B2
  generalize (((w.alloc (Obj.cells #[.float .f64 al, .float .f64 ah] 67)).alloc (Obj.cells #[.float .f64 bl, .float .f64 bh] 67)).alloc (Obj.cells #[.float .f64 0, .float .f64 0] 67)) = W2 at *
  refine Calls.mono (HO.out _) ?_
  rintro e w1 ⟨rfl, hb1⟩
  have HW1 : Hid (Below w.heap.size w w1) := hW.trans (hb1.mono hW.size)
  have HK1 : Hid (w1.heap[w.heap.size + 1 + 1]? = _) := blk_below B2 hb1
  have HA1 : Hid (w1.heap[w.heap.size]? = _) := blk_below B0 hb1
  have HB1 : Hid (w1.heap[w.heap.size + 1]? = _) := blk_below B1 hb1
  clear B0 B1 B2 hW hb1 HO
  go_wp2_with fail
  refine wp_loop_rounds 7 ?_
  rw [rounds_succ]
  go_wp2_with fail
  have HW1 : Hid (Below w.heap.size w (w1.alloc (Obj.cells #[.string ⟨#[43]⟩, .func (.func 44) #[] #[]] 171))) := HW1.out.alloc HW1.out.size _
  have HK1 : Hid ((w1.alloc (Obj.cells #[.string ⟨#[43]⟩, .func (.func 44) #[] #[]] 171)).heap[w.heap.size + 1 + 1]? = _) := blk_old HK1.out _
  have HA1 : Hid ((w1.alloc (Obj.cells #[.string ⟨#[43]⟩, .func (.func 44) #[] #[]] 171)).heap[w.heap.size]? = _) := blk_old HA1.out _
  have HB1 : Hid ((w1.alloc (Obj.cells #[.string ⟨#[43]⟩, .func (.func 44) #[] #[]] 171)).heap[w.heap.size + 1]? = _) := blk_old HB1.out _
  generalize w1.alloc (Obj.cells #[.string ⟨#[43]⟩, .func (.func 44) #[] #[]] 171) = v1 at *
  rw [rounds_succ]
  go_wp2_with fail
  have HW1 : Hid (Below w.heap.size w (v1.alloc (Obj.cells #[.string ⟨#[45]⟩, .func (.func 45) #[] #[]] 171))) := HW1.out.alloc HW1.out.size _
  have HK1 : Hid ((v1.alloc (Obj.cells #[.string ⟨#[45]⟩, .func (.func 45) #[] #[]] 171)).heap[w.heap.size + 1 + 1]? = _) := blk_old HK1.out _
  have HA1 : Hid ((v1.alloc (Obj.cells #[.string ⟨#[45]⟩, .func (.func 45) #[] #[]] 171)).heap[w.heap.size]? = _) := blk_old HA1.out _
  have HB1 : Hid ((v1.alloc (Obj.cells #[.string ⟨#[45]⟩, .func (.func 45) #[] #[]] 171)).heap[w.heap.size + 1]? = _) := blk_old HB1.out _
  generalize v1.alloc (Obj.cells #[.string ⟨#[45]⟩, .func (.func 45) #[] #[]] 171) = v2 at *
  rw [rounds_succ]
  go_wp2_with fail
  have HW1 : Hid (Below w.heap.size w (v2.alloc (Obj.cells #[.string ⟨#[42]⟩, .func (.func 46) #[] #[]] 171))) := HW1.out.alloc HW1.out.size _
  have HK1 : Hid ((v2.alloc (Obj.cells #[.string ⟨#[42]⟩, .func (.func 46) #[] #[]] 171)).heap[w.heap.size + 1 + 1]? = _) := blk_old HK1.out _
  have HA1 : Hid ((v2.alloc (Obj.cells #[.string ⟨#[42]⟩, .func (.func 46) #[] #[]] 171)).heap[w.heap.size]? = _) := blk_old HA1.out _
  have HB1 : Hid ((v2.alloc (Obj.cells #[.string ⟨#[42]⟩, .func (.func 46) #[] #[]] 171)).heap[w.heap.size + 1]? = _) := blk_old HB1.out _
  generalize v2.alloc (Obj.cells #[.string ⟨#[42]⟩, .func (.func 46) #[] #[]] 171) = v3 at *
  rw [rounds_succ]
  go_wp2_with fail
  have HW1 : Hid (Below w.heap.size w (v3.alloc (Obj.cells #[.string ⟨#[47]⟩, .func (.func 47) #[] #[]] 171))) := HW1.out.alloc HW1.out.size _
  have HK1 : Hid ((v3.alloc (Obj.cells #[.string ⟨#[47]⟩, .func (.func 47) #[] #[]] 171)).heap[w.heap.size + 1 + 1]? = _) := blk_old HK1.out _
  have HA1 : Hid ((v3.alloc (Obj.cells #[.string ⟨#[47]⟩, .func (.func 47) #[] #[]] 171)).heap[w.heap.size]? = _) := blk_old HA1.out _
  have HB1 : Hid ((v3.alloc (Obj.cells #[.string ⟨#[47]⟩, .func (.func 47) #[] #[]] 171)).heap[w.heap.size + 1]? = _) := blk_old HB1.out _
  generalize v3.alloc (Obj.cells #[.string ⟨#[47]⟩, .func (.func 47) #[] #[]] 171) = v4 at *
  rw [rounds_succ]
  go_wp2_with fail
  have HW1 : Hid (Below w.heap.size w (v4.alloc (Obj.cells #[.string ⟨#[104, 117, 108, 108]⟩, .func (.func 166) #[] #[]] 171))) := HW1.out.alloc HW1.out.size _
  have HK1 : Hid ((v4.alloc (Obj.cells #[.string ⟨#[104, 117, 108, 108]⟩, .func (.func 166) #[] #[]] 171)).heap[w.heap.size + 1 + 1]? = _) := blk_old HK1.out _
  have HA1 : Hid ((v4.alloc (Obj.cells #[.string ⟨#[104, 117, 108, 108]⟩, .func (.func 166) #[] #[]] 171)).heap[w.heap.size]? = _) := blk_old HA1.out _
  have HB1 : Hid ((v4.alloc (Obj.cells #[.string ⟨#[104, 117, 108, 108]⟩, .func (.func 166) #[] #[]] 171)).heap[w.heap.size + 1]? = _) := blk_old HB1.out _
  generalize v4.alloc (Obj.cells #[.string ⟨#[104, 117, 108, 108]⟩, .func (.func 166) #[] #[]] 171) = v5 at *
  obtain ⟨a0, a1, -, -⟩ := blk2 HA1.out
  obtain ⟨b0, b1, -, -⟩ := blk2 HB1.out
  have la := lt_of_row HA1.out
  have lb := lt_of_row HB1.out
  rw [rounds_succ]
  go_wp2_with fail
  have hX : Below w.heap.size w (v5.alloc (Obj.cells #[.string ⟨#[109, 101, 101, 116]⟩, .func (.func 43) #[] #[]] 171)) := HW1.out.alloc HW1.out.size _
  have hK := blk_old HK1.out (Obj.cells #[.string ⟨#[109, 101, 101, 116]⟩, .func (.func 43) #[] #[]] 171)
  clear a0 a1 b0 b1 la lb HK1 HA1 HB1 i0 i1 i2 i3 i4 i5 e0 e1 e2 e3 e4 e5
  generalize (v5.alloc (Obj.cells #[.string ⟨#[109, 101, 101, 116]⟩, .func (.func 43) #[] #[]] 171)) = W5 at *
  refine Calls.mono (HF.out _ hX) ?_
  rintro e w9 ⟨v, rfl, hE, hb9⟩
  have HE : Hid (ErrIs A w9 v _ _) := hE
  have HB9 : Hid (Below w.heap.size w w9) := hX.trans (hb9.mono hX.size)
  have HK9 : Hid (w9.heap[w.heap.size + 1 + 1]? = _) := blk_below hK hb9
  obtain ⟨k0, k1, k2, k3⟩ := blk2 HK9.out
  clear hE hb9 hX hK HF HS HW1
  go_wp2_with fail
  have hBX : BoxT w9 (w.heap.size + 1 + 1) 67 := BoxT.of HK9.out
  refine bodyPost_ret (v := .tuple #[.agg #[.float .f64 r1, .float .f64 r2], v]) (by simp [results, Tryz.results71, go_sem, k0, k1]) rfl ?_
  exact ⟨v, rfl, (HE.out.set hBX (by decide)).set hBX.set (by decide), (HB9.out.setCell (by simp; omega) _).setCell (by simp; omega) _⟩

set_option maxHeartbeats 4000000 in
set_option maxRecDepth 100000 in
theorem apply_else (A : Nat → Addr) (s : ByteArray) (al ah bl bh : Nat) (w : World) (hS : Sents A w) (hs : s.toList ≠ [43] ∧ s.toList ≠ [45] ∧ s.toList ≠ [42] ∧ s.toList ≠ [47] ∧ s.toList ≠ [104, 117, 108, 108] ∧ s.toList ≠ [109, 101, 101, 116]) :
    Calls Tryz.prog 71 #[.string s, .agg #[.float .f64 al, .float .f64 ah], .agg #[.float .f64 bl, .float .f64 bh]] w fun ev w' => OpR A w 0 0 7 s ev w' := by
  have HS : Hid (Sents A w) := hS
  have HO : Hid (∀ W, Calls Tryz.prog 126 #[] W fun e w' => e = .returned (.agg #[.string ⟨#[43]⟩, .func (.func 44) #[] #[], .string ⟨#[45]⟩, .func (.func 45) #[] #[], .string ⟨#[42]⟩, .func (.func 46) #[] #[], .string ⟨#[47]⟩, .func (.func 47) #[] #[], .string ⟨#[104, 117, 108, 108]⟩, .func (.func 166) #[] #[], .string ⟨#[109, 101, 101, 116]⟩, .func (.func 43) #[] #[]]) ∧ Below W.heap.size W w') := operations_any
  clear hS
  obtain ⟨n0, n1, n2, n3, n4, n5⟩ := hs
  have e0 : ([43] == s.toList) = false := beq_eq_false_iff_ne.2 (fun h => n0 h.symm)
  have e1 : ([45] == s.toList) = false := beq_eq_false_iff_ne.2 (fun h => n1 h.symm)
  have e2 : ([42] == s.toList) = false := beq_eq_false_iff_ne.2 (fun h => n2 h.symm)
  have e3 : ([47] == s.toList) = false := beq_eq_false_iff_ne.2 (fun h => n3 h.symm)
  have e4 : ([104, 117, 108, 108] == s.toList) = false := beq_eq_false_iff_ne.2 (fun h => n4 h.symm)
  have e5 : ([109, 101, 101, 116] == s.toList) = false := beq_eq_false_iff_ne.2 (fun h => n5 h.symm)
  clear n0 n1 n2 n3 n4 n5
  have i0 := c_op0
  have i1 := c_op1
  have i2 := c_op2
  have i3 := c_op3
  have i4 := c_op4
  have i5 := c_op5
  go_enter Tryz.func71, Tryz.ntmps71
  go_wp2_with fail
  have B0 := blk_old (blk_old (blk_new w (Obj.cells #[.float .f64 al, .float .f64 ah] 67)) (Obj.cells #[.float .f64 bl, .float .f64 bh] 67)) (Obj.cells #[.float .f64 0, .float .f64 0] 67)
  have B1 := blk_old (blk_new (w.alloc (Obj.cells #[.float .f64 al, .float .f64 ah] 67)) (Obj.cells #[.float .f64 bl, .float .f64 bh] 67)) (Obj.cells #[.float .f64 0, .float .f64 0] 67)
  have B2 := blk_new ((w.alloc (Obj.cells #[.float .f64 al, .float .f64 ah] 67)).alloc (Obj.cells #[.float .f64 bl, .float .f64 bh] 67)) (Obj.cells #[.float .f64 0, .float .f64 0] 67)
  have hW : Below w.heap.size w (((w.alloc (Obj.cells #[.float .f64 al, .float .f64 ah] 67)).alloc (Obj.cells #[.float .f64 bl, .float .f64 bh] 67)).alloc (Obj.cells #[.float .f64 0, .float .f64 0] 67)) := (((Below.refl _ _).alloc (Nat.le_refl _) _).alloc (by simp) _).alloc (by simp; omega) _
  simp only [World.size_alloc] at B1 B2
  generalize (((w.alloc (Obj.cells #[.float .f64 al, .float .f64 ah] 67)).alloc (Obj.cells #[.float .f64 bl, .float .f64 bh] 67)).alloc (Obj.cells #[.float .f64 0, .float .f64 0] 67)) = W2 at *
  refine Calls.mono (HO.out _) ?_
  rintro e w1 ⟨rfl, hb1⟩
  have HW1 : Hid (Below w.heap.size w w1) := hW.trans (hb1.mono hW.size)
  have HK1 : Hid (w1.heap[w.heap.size + 1 + 1]? = _) := blk_below B2 hb1
  have HA1 : Hid (w1.heap[w.heap.size]? = _) := blk_below B0 hb1
  have HB1 : Hid (w1.heap[w.heap.size + 1]? = _) := blk_below B1 hb1
  clear B0 B1 B2 hW hb1 HO
  go_wp2_with fail
  refine wp_loop_rounds 7 ?_
  rw [rounds_succ]
  go_wp2_with fail
  have HW1 : Hid (Below w.heap.size w (w1.alloc (Obj.cells #[.string ⟨#[43]⟩, .func (.func 44) #[] #[]] 171))) := HW1.out.alloc HW1.out.size _
  have HK1 : Hid ((w1.alloc (Obj.cells #[.string ⟨#[43]⟩, .func (.func 44) #[] #[]] 171)).heap[w.heap.size + 1 + 1]? = _) := blk_old HK1.out _
  have HA1 : Hid ((w1.alloc (Obj.cells #[.string ⟨#[43]⟩, .func (.func 44) #[] #[]] 171)).heap[w.heap.size]? = _) := blk_old HA1.out _
  have HB1 : Hid ((w1.alloc (Obj.cells #[.string ⟨#[43]⟩, .func (.func 44) #[] #[]] 171)).heap[w.heap.size + 1]? = _) := blk_old HB1.out _
  generalize w1.alloc (Obj.cells #[.string ⟨#[43]⟩, .func (.func 44) #[] #[]] 171) = v1 at *
  rw [rounds_succ]
  go_wp2_with fail
  have HW1 : Hid (Below w.heap.size w (v1.alloc (Obj.cells #[.string ⟨#[45]⟩, .func (.func 45) #[] #[]] 171))) := HW1.out.alloc HW1.out.size _
  have HK1 : Hid ((v1.alloc (Obj.cells #[.string ⟨#[45]⟩, .func (.func 45) #[] #[]] 171)).heap[w.heap.size + 1 + 1]? = _) := blk_old HK1.out _
  have HA1 : Hid ((v1.alloc (Obj.cells #[.string ⟨#[45]⟩, .func (.func 45) #[] #[]] 171)).heap[w.heap.size]? = _) := blk_old HA1.out _
  have HB1 : Hid ((v1.alloc (Obj.cells #[.string ⟨#[45]⟩, .func (.func 45) #[] #[]] 171)).heap[w.heap.size + 1]? = _) := blk_old HB1.out _
  generalize v1.alloc (Obj.cells #[.string ⟨#[45]⟩, .func (.func 45) #[] #[]] 171) = v2 at *
  rw [rounds_succ]
  go_wp2_with fail
  have HW1 : Hid (Below w.heap.size w (v2.alloc (Obj.cells #[.string ⟨#[42]⟩, .func (.func 46) #[] #[]] 171))) := HW1.out.alloc HW1.out.size _
  have HK1 : Hid ((v2.alloc (Obj.cells #[.string ⟨#[42]⟩, .func (.func 46) #[] #[]] 171)).heap[w.heap.size + 1 + 1]? = _) := blk_old HK1.out _
  have HA1 : Hid ((v2.alloc (Obj.cells #[.string ⟨#[42]⟩, .func (.func 46) #[] #[]] 171)).heap[w.heap.size]? = _) := blk_old HA1.out _
  have HB1 : Hid ((v2.alloc (Obj.cells #[.string ⟨#[42]⟩, .func (.func 46) #[] #[]] 171)).heap[w.heap.size + 1]? = _) := blk_old HB1.out _
  generalize v2.alloc (Obj.cells #[.string ⟨#[42]⟩, .func (.func 46) #[] #[]] 171) = v3 at *
  rw [rounds_succ]
  go_wp2_with fail
  have HW1 : Hid (Below w.heap.size w (v3.alloc (Obj.cells #[.string ⟨#[47]⟩, .func (.func 47) #[] #[]] 171))) := HW1.out.alloc HW1.out.size _
  have HK1 : Hid ((v3.alloc (Obj.cells #[.string ⟨#[47]⟩, .func (.func 47) #[] #[]] 171)).heap[w.heap.size + 1 + 1]? = _) := blk_old HK1.out _
  have HA1 : Hid ((v3.alloc (Obj.cells #[.string ⟨#[47]⟩, .func (.func 47) #[] #[]] 171)).heap[w.heap.size]? = _) := blk_old HA1.out _
  have HB1 : Hid ((v3.alloc (Obj.cells #[.string ⟨#[47]⟩, .func (.func 47) #[] #[]] 171)).heap[w.heap.size + 1]? = _) := blk_old HB1.out _
  generalize v3.alloc (Obj.cells #[.string ⟨#[47]⟩, .func (.func 47) #[] #[]] 171) = v4 at *
  rw [rounds_succ]
  go_wp2_with fail
  have HW1 : Hid (Below w.heap.size w (v4.alloc (Obj.cells #[.string ⟨#[104, 117, 108, 108]⟩, .func (.func 166) #[] #[]] 171))) := HW1.out.alloc HW1.out.size _
  have HK1 : Hid ((v4.alloc (Obj.cells #[.string ⟨#[104, 117, 108, 108]⟩, .func (.func 166) #[] #[]] 171)).heap[w.heap.size + 1 + 1]? = _) := blk_old HK1.out _
  have HA1 : Hid ((v4.alloc (Obj.cells #[.string ⟨#[104, 117, 108, 108]⟩, .func (.func 166) #[] #[]] 171)).heap[w.heap.size]? = _) := blk_old HA1.out _
  have HB1 : Hid ((v4.alloc (Obj.cells #[.string ⟨#[104, 117, 108, 108]⟩, .func (.func 166) #[] #[]] 171)).heap[w.heap.size + 1]? = _) := blk_old HB1.out _
  generalize v4.alloc (Obj.cells #[.string ⟨#[104, 117, 108, 108]⟩, .func (.func 166) #[] #[]] 171) = v5 at *
  rw [rounds_succ]
  go_wp2_with fail
  have HW1 : Hid (Below w.heap.size w (v5.alloc (Obj.cells #[.string ⟨#[109, 101, 101, 116]⟩, .func (.func 43) #[] #[]] 171))) := HW1.out.alloc HW1.out.size _
  have HK1 : Hid ((v5.alloc (Obj.cells #[.string ⟨#[109, 101, 101, 116]⟩, .func (.func 43) #[] #[]] 171)).heap[w.heap.size + 1 + 1]? = _) := blk_old HK1.out _
  have HA1 : Hid ((v5.alloc (Obj.cells #[.string ⟨#[109, 101, 101, 116]⟩, .func (.func 43) #[] #[]] 171)).heap[w.heap.size]? = _) := blk_old HA1.out _
  have HB1 : Hid ((v5.alloc (Obj.cells #[.string ⟨#[109, 101, 101, 116]⟩, .func (.func 43) #[] #[]] 171)).heap[w.heap.size + 1]? = _) := blk_old HB1.out _
  generalize v5.alloc (Obj.cells #[.string ⟨#[109, 101, 101, 116]⟩, .func (.func 43) #[] #[]] 171) = v6 at *
  rw [rounds_succ]
  go_wp2_with fail
  have HB9 : Hid (Below w.heap.size w v6) := HW1.out
  have HK9 : Hid (v6.heap[w.heap.size + 1 + 1]? = _) := HK1.out
  clear HK1 HA1 HB1 i0 i1 i2 i3 i4 i5 e0 e1 e2 e3 e4 e5 HW1
  generalize v6 = w9 at *
  obtain ⟨k0, k1, k2, k3⟩ := blk2 HK9.out
  have c2 : w9.cell? ⟨6, 0, none⟩ = some (.iface 229 (.pointer (some (A 6)))) := (HS.out.below HB9.out (Nat.le_refl _)).cell 6 (by omega)
  have hl2 := lt_of_cell c2
  have hl1 : 6 < w.heap.size := lt_of_cell (HS.out.cell 6 (by omega))
  have c3 : (w9.setCell ⟨w.heap.size + 1 + 1, 0, none⟩ (.float .f64 0)).cell? ⟨6, 0, none⟩ = some (.iface 229 (.pointer (some (A 6)))) := by rw [cell_set_ne (by omega)]; exact c2
  have c4 : ((w9.setCell ⟨w.heap.size + 1 + 1, 0, none⟩ (.float .f64 0)).setCell ⟨w.heap.size + 1 + 1, 1, none⟩ (.float .f64 0)).cell? ⟨6, 0, none⟩ = some (.iface 229 (.pointer (some (A 6)))) := by rw [cell_set_ne (by omega)]; exact c3
  have HK10 : Hid ((w9.alloc (Obj.cells #[.string s, .iface 229 (.pointer (some (A 6)))] 138)).heap[w.heap.size + 1 + 1]? = _) := blk_old HK9.out _
  obtain ⟨l0, l1, l2, l3⟩ := blk2 HK10.out
  have HN : Hid ((w9.alloc (Obj.cells #[.string s, .iface 229 (.pointer (some (A 6)))] 138)).heap[w9.heap.size]? = _) := blk_new w9 _
  have HA : Hid ((((w9.setCell ⟨w.heap.size + 1 + 1, 0, none⟩ (.float .f64 0)).setCell ⟨w.heap.size + 1 + 1, 1, none⟩ (.float .f64 0)).alloc (Obj.cells #[.string s, .iface 229 (.pointer (some (A 6)))] 138)).heap[w.heap.size + 1 + 1]? = _) := blk_old (blk_store2 HK9.out) _
  have HB : Hid ((((w9.alloc (Obj.cells #[.string s, .iface 229 (.pointer (some (A 6)))] 138)).setCell ⟨w.heap.size + 1 + 1, 0, none⟩ (.float .f64 0)).setCell ⟨w.heap.size + 1 + 1, 1, none⟩ (.float .f64 0)).heap[w.heap.size + 1 + 1]? = _) := blk_store2 HK10.out
  have HAN : Hid ((((w9.setCell ⟨w.heap.size + 1 + 1, 0, none⟩ (.float .f64 0)).setCell ⟨w.heap.size + 1 + 1, 1, none⟩ (.float .f64 0)).alloc (Obj.cells #[.string s, .iface 229 (.pointer (some (A 6)))] 138)).heap[w9.heap.size]? = some (.cells #[.string s, .iface 229 (.pointer (some (A 6)))] 138 (0, 0))) := by
    have := blk_new ((w9.setCell ⟨w.heap.size + 1 + 1, 0, none⟩ (.float .f64 0)).setCell ⟨w.heap.size + 1 + 1, 1, none⟩ (.float .f64 0)) (Obj.cells #[.string s, .iface 229 (.pointer (some (A 6)))] 138)
    simp only [World.size_setCell] at this
    exact this
  have HEA : Hid (ErrIs A (((w9.setCell ⟨w.heap.size + 1 + 1, 0, none⟩ (.float .f64 0)).setCell ⟨w.heap.size + 1 + 1, 1, none⟩ (.float .f64 0)).alloc (Obj.cells #[.string s, .iface 229 (.pointer (some (A 6)))] 138)).drew (.iface 136 (.pointer (some ⟨w9.heap.size, 0, none⟩))) 7 s) := ErrIs.op 6 (by omega) _ _ HAN.out
  have HEB0 : Hid (ErrIs A (w9.alloc (Obj.cells #[.string s, .iface 229 (.pointer (some (A 6)))] 138)) (.iface 136 (.pointer (some ⟨w9.heap.size, 0, none⟩))) 7 s) := ErrIs.op 6 (by omega) _ _ HN.out
  have hBX : BoxT (w9.alloc (Obj.cells #[.string s, .iface 229 (.pointer (some (A 6)))] 138)) (w.heap.size + 1 + 1) 67 := BoxT.of HK10.out
  have HEB1 : Hid (ErrIs A (((w9.alloc (Obj.cells #[.string s, .iface 229 (.pointer (some (A 6)))] 138)).setCell ⟨w.heap.size + 1 + 1, 0, none⟩ (.float .f64 0)).setCell ⟨w.heap.size + 1 + 1, 1, none⟩ (.float .f64 0)) (.iface 136 (.pointer (some ⟨w9.heap.size, 0, none⟩))) 7 s) := (HEB0.out.set hBX (by decide)).set hBX.set (by decide)
  have HEB : Hid (ErrIs A (((w9.alloc (Obj.cells #[.string s, .iface 229 (.pointer (some (A 6)))] 138)).setCell ⟨w.heap.size + 1 + 1, 0, none⟩ (.float .f64 0)).setCell ⟨w.heap.size + 1 + 1, 1, none⟩ (.float .f64 0)).drew (.iface 136 (.pointer (some ⟨w9.heap.size, 0, none⟩))) 7 s) := HEB1.out.drew
  have HBA : Hid (Below w.heap.size w (((w9.setCell ⟨w.heap.size + 1 + 1, 0, none⟩ (.float .f64 0)).setCell ⟨w.heap.size + 1 + 1, 1, none⟩ (.float .f64 0)).alloc (Obj.cells #[.string s, .iface 229 (.pointer (some (A 6)))] 138)).drew) := (((HB9.out.setCell (by simp; omega) _).setCell (by simp; omega) _).alloc (by have := HB9.out.size; simp; omega) _).drew
  have HBB : Hid (Below w.heap.size w (((w9.alloc (Obj.cells #[.string s, .iface 229 (.pointer (some (A 6)))] 138)).setCell ⟨w.heap.size + 1 + 1, 0, none⟩ (.float .f64 0)).setCell ⟨w.heap.size + 1 + 1, 1, none⟩ (.float .f64 0)).drew) := (((HB9.out.alloc HB9.out.size _).setCell (by simp; omega) _).setCell (by simp; omega) _).drew
  obtain ⟨p0, p1, -, -⟩ := blk2 HA.out
  obtain ⟨q0, q1, -, -⟩ := blk2 HB.out
  clear HS hBX
  go_region
  all_goals go_wp2_with fail
  all_goals refine bodyPost_ret (v := .tuple #[.agg #[.float .f64 0, .float .f64 0], (.iface 136 (.pointer (some ⟨w9.heap.size, 0, none⟩)))]) (by simp [results, Tryz.results71, go_sem, p0, p1, q0, q1]) rfl ?_
  all_goals first
    | exact ⟨_, rfl, HEA.out, HBA.out⟩
    | exact ⟨_, rfl, HEB.out, HBB.out⟩

end Go.Proofs.YtonhpkigoplmaaaGreatDoor
