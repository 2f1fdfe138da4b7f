/-
  encloseref.nat: the digits of a number.
-/
import Derived.Test.YtonhpkigoplmaaaGreatDoorProg
import Derived.Test.YtonhpkigoplmaaaGreatDoorNatsM
import Derived.WalkLawsBesides
import Derived.Outline
namespace Go.Proofs.YtonhpkigoplmaaaGreatDoor
open Go.RowKit

theorem infoInt : (Tryz.prog.info? 3).map (fun i => (i.zero, i.size, i.bytes)) = some (some (.int .i64 0), 1, 8) := by kernel_rfl

/-- A digit as a cell. -/
def dv (d : Nat) : Value := .int .i64 (d : Int)

/-- A slice value that holds these digits (in a block of ints). -/
def Dig (w : World) (v : Value) (l : List Nat) : Prop :=
  (∀ d ∈ l, d < 16777216) ∧ ((v = .slice none 0 0 ∧ l = []) ∨ ∃ b off cap cur, v = .slice (some ⟨b, off, none⟩) l.length cap ∧ w.heap[b]? = some (.cells cur 3 (0, 0)) ∧ l.length ≤ cap ∧ ∀ i, i < l.length → cur[off + i]? = some (.int .i64 (l.getD i 0 : Nat)))

/-- A slice value that holds a natural number's digits. -/
def NatV (w : World) (v : Value) (n : Nat) : Prop := Dig w v (digits n)

/-- The blocks of ints of w are there in w' too, as they were. -/
def Keeps (w w' : World) : Prop := ∀ (g : Nat) (cur : Array Value), w.heap[g]? = some (Obj.cells cur 3 (0, 0)) → w'.heap[g]? = some (Obj.cells cur 3 (0, 0))

theorem Keeps.refl (w : World) : Keeps w w := fun _ _ h => h
theorem Keeps.trans {a b c : World} (h : Keeps a b) (k : Keeps b c) : Keeps a c := fun g cur hg => k g cur (h g cur hg)
theorem Keeps.below {w w' : World} {B : Nat} (hb : Below B w w') (hB : w.heap.size ≤ B) : Keeps w w' := fun g cur hg => by
  have := (Array.getElem?_eq_some_iff.1 hg).1
  rw [hb.block g (by omega)]; exact hg
theorem Keeps.alloc (w : World) (o : Obj) : Keeps w (w.alloc o) := Keeps.below ((Below.refl _ _).alloc (Nat.le_refl _) o) (Nat.le_refl _)
theorem Keeps.drew (w : World) : Keeps w w.drew := fun _ _ h => h
theorem Keeps.drewN (w : World) (n : Nat) : Keeps w (w.drewN n) := fun _ _ h => h

theorem Dig.keeps {w w' : World} {v : Value} {l : List Nat} (h : Dig w v l) (k : Keeps w w') : Dig w' v l := by
  obtain ⟨h1, h2⟩ := h
  refine ⟨h1, ?_⟩
  rcases h2 with h2 | ⟨b, off, cap, cur, h3, h4, h6, h5⟩
  · exact Or.inl h2
  · exact Or.inr ⟨b, off, cap, cur, h3, k _ _ h4, h6, h5⟩

theorem NatV.keeps {w w' : World} {v : Value} {n : Nat} (h : NatV w v n) (k : Keeps w w') : NatV w' v n := Dig.keeps h k

theorem Dig.below {w w' : World} {v : Value} {l : List Nat} {B : Nat} (h : Dig w v l) (hb : Below B w w') (hB : w.heap.size ≤ B) : Dig w' v l := h.keeps (Keeps.below hb hB)

theorem NatV.below {w w' : World} {v : Value} {n : Nat} {B : Nat} (h : NatV w v n) (hb : Below B w w') (hB : w.heap.size ≤ B) : NatV w' v n := Dig.below h hb hB

theorem Dig.of_owns {w : World} {v : Value} {l : List Nat} {B : Nat} (h : w.ownsRow B 3 1 v l.length (l.map dv)) (hd : ∀ d ∈ l, d < 16777216) : Dig w v l := by
  refine ⟨hd, ?_⟩
  obtain ⟨_, h2⟩ := h
  rcases h2 with ⟨rfl, h0⟩ | ⟨g, cap, cur, rfl, hg, hh, hn, hcap, hs, ht⟩
  · exact Or.inl ⟨rfl, List.length_eq_zero_iff.1 h0⟩
  · refine Or.inr ⟨g, 0, cap, cur, rfl, hh, hn, fun i hi => ?_⟩
    have := congrArg (fun x => x[i]?) ht
    simp only [Nat.mul_one, List.getElem?_take, hi, if_true, Array.getElem?_toList, List.getElem?_map] at this
    rw [Nat.zero_add, this]
    simp [List.getElem?_eq_getElem hi, dv]

theorem cell_of_cur {w : World} {b : Nat} {cur : Array Value} {t : TypeId} {fz : Nat × Nat} (h : w.heap[b]? = some (.cells cur t fz)) (o : Nat) : w.cell? ⟨b, o, none⟩ = cur[o]? := by simp [World.cell?, h]

/-- What an append of one digit does to the relation of a loop. -/
theorem push_step {B : Nat} {w wr w1 : World} {v v' : Value} {l : List Nat} {d : Nat} {z : Int} {X : Obj} (hown : wr.ownsRow B 3 1 v l.length (l.map dv)) (hb : Below B w wr) (hB : B ≤ w.heap.size)
    (hown' : w1.ownsRow B 3 1 v' (l.length + 1) (l.map dv ++ [.int .i64 z])) (hz : z = (d : Int)) (hgrow : (wr.alloc X).grownBy w1 v.ownBlock) :
    w1.ownsRow B 3 1 v' (l ++ [d]).length ((l ++ [d]).map dv) ∧ Below B w w1 := by
  subst hz
  have hs := hb.size
  refine ⟨by simpa [dv] using hown', ?_⟩
  exact (hb.alloc (by omega) X).grown hgrow (by simp; omega) (fun k hk => (hown.lt k hk).1)

theorem nval_snoc (l : List Nat) (d : Nat) : nval (l ++ [d]) = nval l + 16777216 ^ l.length * d := by
  rw [nval_append]; simp [nval]

theorem nval_snoc_div (l : List Nat) (m : Nat) : nval (l ++ [m % 16777216]) + 16777216 ^ (l ++ [m % 16777216]).length * (m / 16777216) = nval l + 16777216 ^ l.length * m := by
  rw [nval_snoc]
  have e : (l ++ [m % 16777216]).length = l.length + 1 := by simp
  rw [e, Nat.pow_succ]
  generalize 16777216 ^ l.length = P
  have h : P * m = P * (m % 16777216) + P * (16777216 * (m / 16777216)) := by rw [← Nat.mul_add, Nat.mod_add_div]
  rw [h, Nat.mul_assoc]; omega

theorem canon_snoc {l : List Nat} {d : Nat} (h : d ≠ 0) : Canon (l ++ [d]) := by simp [Canon, h]

theorem nat_len {l : List Nat} {m n : Nat} (h : nval l + 16777216 ^ l.length * m = n) (hm : 0 < m) (hn : n < 9223372036854775808) : l.length ≤ 2 := by
  rcases Nat.lt_or_ge l.length 3 with h' | h'
  · omega
  · have h1 : 16777216 ^ 3 ≤ 16777216 ^ l.length := Nat.pow_le_pow_right (by decide) h'
    have h2 : 16777216 ^ l.length * 1 ≤ 16777216 ^ l.length * m := Nat.mul_le_mul_left _ hm
    omega

set_option maxRecDepth 100000 in
theorem nat_any (n : Nat) (w : World) (hn : n < 9223372036854775808) :
    Calls Tryz.prog 114 #[.int .i64 (n : Int)] w fun e w' => ∃ v, e = .returned v ∧ NatV w' v n ∧ Below w.heap.size w w' := by
  obtain ⟨i0, hi, hz0, hz1, hz2⟩ := info_parts infoInt
  go_enter Tryz.func114, Tryz.ntmps114
  go_wp2
  go_loopw [0, 3] (fun x v wr => ∃ (m : Nat) (l : List Nat), x = .int .i64 (m : Int) ∧ m < 9223372036854775808 ∧ wr.ownsRow w.heap.size 3 1 v l.length (l.map dv) ∧ Below w.heap.size w wr ∧ (∀ d ∈ l, d < 16777216) ∧ nval l + 16777216 ^ l.length * m = n ∧ (m = 0 → Canon l))
    (fun x _ _ => (intOf x).toNat)
  case atStart => exact ⟨n, [], rfl, hn, World.ownsRow_nil _ _ _ _, Below.refl _ _, by simp, by simp [nval], fun _ => canon_nil⟩
  case round =>
    obtain ⟨m, l, rfl, hm, hown, hb, hd, hv, hc⟩ := hrel
    have HV : Hid (nval l + 16777216 ^ l.length * m = n) := hv
    have HC : Hid (m = 0 → Canon l) := hc
    have HD : Hid (∀ d ∈ l, d < 16777216) := hd
    clear hv hc hd
    by_cases h0 : 0 < m
    · have hle := nat_len HV.out h0 hn
      go_wp2_with (first
        | (at_builtin; refine wpList_append_own _ rfl _ _ 40 rfl w.heap.size 3 i0 (.int .i64 0) 1 8 Tryz.underlying40 hi hz0 hz1 hz2 rfl (by decide) _ _ _ rfl (hown.alloc _) ⟨wr.heap.size, 0, none⟩ 1 1 [.int .i64 ((m % 16777216 : Nat) : Int)] rfl rfl ?c1 ?c2 ?c3 ?c4 ?c5 ?_)
        | go_in)
      case c1 =>
        intro j u hj
        match j, hj with
        | 0, hj => simp at hj; subst hj; simp [Addr.add]
      case c2 => intro u hu; simp at hu; subst hu; rfl
      case c3 => unfold maxLen; omega
      case c4 => omega
      case c5 => have := hb.size; simp; omega
      · intro v' w1 hown' hgrow _
        have R := push_step hown hb (Nat.le_refl _) hown' (d := m % 16777216) (by omega) hgrow
        clear hown' hgrow hown hb
        go_wp2
        go_roundw
        case rel =>
          refine ⟨m / 16777216, l ++ [m % 16777216], by go_num, by omega, R.1, R.2, ?_, ?_, fun h => canon_snoc (by omega)⟩
          · intro d hd
            rcases List.mem_append.1 hd with h | h
            · exact HD.out d h
            · simp at h; omega
          · rw [nval_snoc_div]; exact HV.out
        case measure => simp [intOf]; omega
    · have hm0 : m = 0 := by omega
      subst hm0
      go_wp2_with fail
      go_ret
      refine ⟨_, rfl, ?_, hb⟩
      have e : digits n = l := by
        have := HV.out
        rw [Nat.mul_zero, Nat.add_zero] at this
        rw [← this]
        exact digits_of l HD.out (HC.out trivial)
      unfold NatV
      rw [e]
      exact Dig.of_owns hown HD.out
end Go.Proofs.YtonhpkigoplmaaaGreatDoor
