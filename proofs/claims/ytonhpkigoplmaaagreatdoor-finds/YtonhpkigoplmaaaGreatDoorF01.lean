/-
  NatsM, NatA, NatB, NatC, NatD.
-/
import Derived.WalkKit
import Derived.Test.YtonhpkigoplmaaaGreatDoorProg
import Derived.WalkLawsBesides
import Derived.Outline
import Derived.BigQuiet
import Derived.WalkSmall
import Derived.Deep.QuietTactic
namespace Go.Proofs.YtonhpkigoplmaaaGreatDoor

def nval : List Nat → Nat
  | [] => 0
  | d :: r => d + 16777216 * nval r

def digF : Nat → Nat → List Nat
  | 0, _ => []
  | f + 1, n => if n = 0 then [] else n % 16777216 :: digF f (n / 16777216)

/-- The digits of a natural number. -/
def digits (n : Nat) : List Nat := digF n n

theorem digF_nval : ∀ f n, n ≤ f → nval (digF f n) = n
  | 0, n, h => by simp [digF, nval]; omega
  | f + 1, n, h => by
    unfold digF
    split
    · rename_i h0; simp [nval, h0]
    · simp only [nval]
      rw [digF_nval f (n / 16777216) (by omega)]
      omega

theorem nval_digits (n : Nat) : nval (digits n) = n := digF_nval n n (Nat.le_refl _)

theorem digF_lt : ∀ f n d, d ∈ digF f n → d < 16777216
  | 0, n, d, h => by simp [digF] at h
  | f + 1, n, d, h => by
    unfold digF at h
    split at h
    · simp at h
    · rcases List.mem_cons.1 h with rfl | h
      · omega
      · exact digF_lt f _ d h

theorem digits_lt (n d : Nat) (h : d ∈ digits n) : d < 16777216 := digF_lt n n d h

/-- No digit 0 at the end. -/
def Canon (l : List Nat) : Prop := l.getLast? ≠ some 0

theorem canon_nil : Canon [] := by simp [Canon]

theorem canon_tail {d : Nat} {r : List Nat} (hr : r ≠ []) (h : Canon (d :: r)) : Canon r := by
  unfold Canon at *
  cases r with
  | nil => exact absurd rfl hr
  | cons a t => simpa [List.getLast?_cons] using h

theorem nval_pos : ∀ l, l ≠ [] → Canon l → 0 < nval l
  | [], h, _ => absurd rfl h
  | [d], _, h => by
    simp [Canon] at h
    simp [nval]; omega
  | d :: e :: r, _, h => by
    have := nval_pos (e :: r) (by simp) (canon_tail (by simp) h)
    rw [nval]; omega

theorem digF_of : ∀ l f, (∀ d ∈ l, d < 16777216) → Canon l → nval l ≤ f → digF f (nval l) = l
  | [], f, _, _, _ => by cases f <;> simp [digF, nval]
  | d :: r, f, hd, hc, hf => by
    have hd0 : d < 16777216 := hd d (by simp)
    have hpos := nval_pos (d :: r) (by simp) hc
    have hn : nval (d :: r) = d + 16777216 * nval r := rfl
    cases f with
    | zero => omega
    | succ f =>
      unfold digF
      rw [if_neg (by omega)]
      have e1 : nval (d :: r) % 16777216 = d := by omega
      have e2 : nval (d :: r) / 16777216 = nval r := by omega
      rw [e1, e2]
      by_cases hr : r = []
      · subst hr
        simp only [nval]
        cases f <;> simp [digF]
      · rw [digF_of r f (fun x hx => hd x (by simp [hx])) (canon_tail hr hc) (by
          have := nval_pos r hr (canon_tail hr hc); omega)]

/-- Digits with none of them 0 at the end are the digits of their number. -/
theorem digits_of (l : List Nat) (hd : ∀ d ∈ l, d < 16777216) (hc : Canon l) : digits (nval l) = l := digF_of l _ hd hc (Nat.le_refl _)

theorem canon_digF : ∀ f n, n ≤ f → Canon (digF f n)
  | 0, n, _ => by simp [digF, Canon]
  | f + 1, n, h => by
    unfold digF
    split
    · exact canon_nil
    · rename_i h0
      by_cases hz : n / 16777216 = 0
      · rw [hz]
        have : digF f 0 = [] := by cases f <;> simp [digF]
        rw [this]
        simp [Canon]; omega
      · have hc := canon_digF f (n / 16777216) (by omega)
        have hne : digF f (n / 16777216) ≠ [] := fun e => by
          have := digF_nval f (n / 16777216) (by omega)
          rw [e] at this; simp [nval] at this; omega
        unfold Canon at *
        cases he : digF f (n / 16777216) with
        | nil => exact absurd he hne
        | cons a t => rw [he] at hc; simpa [List.getLast?_cons] using hc

theorem canon_digits (n : Nat) : Canon (digits n) := canon_digF n n (Nat.le_refl _)

theorem digits_zero : digits 0 = [] := rfl

theorem digits_nil_iff (n : Nat) : digits n = [] ↔ n = 0 := by
  constructor
  · intro h; have := nval_digits n; rw [h] at this; simpa [nval] using this.symm
  · rintro rfl; rfl

theorem nval_append : ∀ a b, nval (a ++ b) = nval a + 16777216 ^ a.length * nval b
  | [], b => by simp [nval]
  | d :: r, b => by
    simp only [List.cons_append, nval, nval_append r b, List.length_cons, Nat.pow_succ]
    rw [Nat.mul_add, Nat.mul_comm (16777216 ^ r.length) 16777216, Nat.mul_assoc]; omega

theorem nval_lt : ∀ l, (∀ d ∈ l, d < 16777216) → nval l < 16777216 ^ l.length
  | [], _ => by simp [nval]
  | d :: r, h => by
    have h1 := nval_lt r (fun x hx => h x (by simp [hx]))
    have h2 := h d (by simp)
    simp only [nval, List.length_cons, Nat.pow_succ]
    omega

theorem le_nval {l : List Nat} (hl : l ≠ []) (hc : Canon l) : 16777216 ^ (l.length - 1) ≤ nval l := by
  induction l with
  | nil => exact absurd rfl hl
  | cons d r ih =>
    by_cases hr : r = []
    · subst hr; have := nval_pos [d] (by simp) hc; show 1 ≤ nval [d]; omega
    · have h1 := ih hr (canon_tail hr hc)
      have hlen : r.length ≠ 0 := fun e => hr (List.length_eq_zero_iff.1 e)
      have e : (d :: r).length - 1 = (r.length - 1) + 1 := by simp; omega
      rw [e, Nat.pow_succ]
      simp only [nval]; omega

theorem len_of_lt {n k : Nat} (h : n < 16777216 ^ k) : (digits n).length ≤ k := by
  by_cases h0 : digits n = []
  · simp [h0]
  · have := le_nval h0 (canon_digits n)
    rw [nval_digits] at this
    have h2 : 16777216 ^ ((digits n).length - 1) < 16777216 ^ k := Nat.lt_of_le_of_lt this h
    have := (Nat.pow_lt_pow_iff_right (by decide : 1 < 16777216)).1 h2
    omega

theorem len_of_lt2 {n k : Nat} (h : n < 2 ^ k) : (digits n).length ≤ k / 24 + 1 := by
  apply len_of_lt
  have e : (16777216 : Nat) = 2 ^ 24 := rfl
  rw [e, ← Nat.pow_mul]
  exact Nat.lt_of_lt_of_le h (Nat.pow_le_pow_right (by decide) (by omega))

theorem lt_pow_len (n : Nat) : n < 16777216 ^ (digits n).length := by
  have := nval_lt (digits n) (digits_lt n)
  rwa [nval_digits] at this
end Go.Proofs.YtonhpkigoplmaaaGreatDoor
namespace Go.Proofs.YtonhpkigoplmaaaGreatDoor
open Go.RowKit

theorem infoInt : (Tryz.prog.info? 3).map (fun i => (i.zero, i.size, i.bytes)) = some (some (.int .i64 0), 1, 8) := by kernel_rfl

/-- A digit as a cell. -/
def dv (d : Nat) : Value := .int .i64 (d : Int)

/-- A slice value that holds these digits (in a block of ints). -/
def Dig (w : World) (v : Value) (l : List Nat) : Prop :=
  (∀ d ∈ l, d < 16777216) ∧ ((v = .slice none 0 0 ∧ l = []) ∨ ∃ b off cap cur, v = .slice (some ⟨b, off, none⟩) l.length cap ∧ w.heap[b]? = some (.cells cur 3 (0, 0)) ∧ l.length ≤ cap ∧ ∀ i, i < l.length → cur[off + i]? = some (.int .i64 (l.getD i 0 : Nat)))

/-- A slice value that holds a natural number's digits. -/
def NatV (w : World) (v : Value) (n : Nat) : Prop := Dig w v (digits n)

/-- The blocks of ints of w are there in w' too, as they were. -/
def Keeps (w w' : World) : Prop := ∀ (g : Nat) (cur : Array Value), w.heap[g]? = some (Obj.cells cur 3 (0, 0)) → w'.heap[g]? = some (Obj.cells cur 3 (0, 0))

theorem Keeps.refl (w : World) : Keeps w w := fun _ _ h => h
theorem Keeps.trans {a b c : World} (h : Keeps a b) (k : Keeps b c) : Keeps a c := fun g cur hg => k g cur (h g cur hg)
theorem Keeps.below {w w' : World} {B : Nat} (hb : Below B w w') (hB : w.heap.size ≤ B) : Keeps w w' := fun g cur hg => by
  have := (Array.getElem?_eq_some_iff.1 hg).1
  rw [hb.block g (by omega)]; exact hg
theorem Keeps.alloc (w : World) (o : Obj) : Keeps w (w.alloc o) := Keeps.below ((Below.refl _ _).alloc (Nat.le_refl _) o) (Nat.le_refl _)
theorem Keeps.drew (w : World) : Keeps w w.drew := fun _ _ h => h
theorem Dig.keeps {w w' : World} {v : Value} {l : List Nat} (h : Dig w v l) (k : Keeps w w') : Dig w' v l := by
  obtain ⟨h1, h2⟩ := h
  refine ⟨h1, ?_⟩
  rcases h2 with h2 | ⟨b, off, cap, cur, h3, h4, h6, h5⟩
  · exact Or.inl h2
  · exact Or.inr ⟨b, off, cap, cur, h3, k _ _ h4, h6, h5⟩

theorem NatV.keeps {w w' : World} {v : Value} {n : Nat} (h : NatV w v n) (k : Keeps w w') : NatV w' v n := Dig.keeps h k

theorem Dig.below {w w' : World} {v : Value} {l : List Nat} {B : Nat} (h : Dig w v l) (hb : Below B w w') (hB : w.heap.size ≤ B) : Dig w' v l := h.keeps (Keeps.below hb hB)

theorem NatV.below {w w' : World} {v : Value} {n : Nat} {B : Nat} (h : NatV w v n) (hb : Below B w w') (hB : w.heap.size ≤ B) : NatV w' v n := Dig.below h hb hB

theorem Dig.of_owns {w : World} {v : Value} {l : List Nat} {B : Nat} (h : w.ownsRow B 3 1 v l.length (l.map dv)) (hd : ∀ d ∈ l, d < 16777216) : Dig w v l := by
  refine ⟨hd, ?_⟩
  obtain ⟨_, h2⟩ := h
  rcases h2 with ⟨rfl, h0⟩ | ⟨g, cap, cur, rfl, hg, hh, hn, hcap, hs, ht⟩
  · exact Or.inl ⟨rfl, List.length_eq_zero_iff.1 h0⟩
  · refine Or.inr ⟨g, 0, cap, cur, rfl, hh, hn, fun i hi => ?_⟩
    have := congrArg (fun x => x[i]?) ht
    simp only [Nat.mul_one, List.getElem?_take, hi, if_true, Array.getElem?_toList, List.getElem?_map] at this
    rw [Nat.zero_add, this]
    simp [List.getElem?_eq_getElem hi, dv]

theorem cell_of_cur {w : World} {b : Nat} {cur : Array Value} {t : TypeId} {fz : Nat × Nat} (h : w.heap[b]? = some (.cells cur t fz)) (o : Nat) : w.cell? ⟨b, o, none⟩ = cur[o]? := by simp [World.cell?, h]

/-- What an append of one digit does to the relation of a loop. -/
theorem push_step {B : Nat} {w wr w1 : World} {v v' : Value} {l : List Nat} {d : Nat} {z : Int} {X : Obj} (hown : wr.ownsRow B 3 1 v l.length (l.map dv)) (hb : Below B w wr) (hB : B ≤ w.heap.size)
    (hown' : w1.ownsRow B 3 1 v' (l.length + 1) (l.map dv ++ [.int .i64 z])) (hz : z = (d : Int)) (hgrow : (wr.alloc X).grownBy w1 v.ownBlock) :
    w1.ownsRow B 3 1 v' (l ++ [d]).length ((l ++ [d]).map dv) ∧ Below B w w1 := by
  subst hz
  have hs := hb.size
  refine ⟨by simpa [dv] using hown', ?_⟩
  exact (hb.alloc (by omega) X).grown hgrow (by simp; omega) (fun k hk => (hown.lt k hk).1)

theorem nval_snoc (l : List Nat) (d : Nat) : nval (l ++ [d]) = nval l + 16777216 ^ l.length * d := by
  rw [nval_append]; simp [nval]

theorem nval_snoc_div (l : List Nat) (m : Nat) : nval (l ++ [m % 16777216]) + 16777216 ^ (l ++ [m % 16777216]).length * (m / 16777216) = nval l + 16777216 ^ l.length * m := by
  rw [nval_snoc]
  have e : (l ++ [m % 16777216]).length = l.length + 1 := by simp
  rw [e, Nat.pow_succ]
  generalize 16777216 ^ l.length = P
  have h : P * m = P * (m % 16777216) + P * (16777216 * (m / 16777216)) := by rw [← Nat.mul_add, Nat.mod_add_div]
  rw [h, Nat.mul_assoc]; omega

theorem canon_snoc {l : List Nat} {d : Nat} (h : d ≠ 0) : Canon (l ++ [d]) := by simp [Canon, h]

theorem nat_len {l : List Nat} {m n : Nat} (h : nval l + 16777216 ^ l.length * m = n) (hm : 0 < m) (hn : n < 9223372036854775808) : l.length ≤ 2 := by
  rcases Nat.lt_or_ge l.length 3 with h' | h'
  · omega
  · have h1 : 16777216 ^ 3 ≤ 16777216 ^ l.length := Nat.pow_le_pow_right (by decide) h'
    have h2 : 16777216 ^ l.length * 1 ≤ 16777216 ^ l.length * m := Nat.mul_le_mul_left _ hm
    omega

set_option maxRecDepth 100000 in
theorem nat_any (n : Nat) (w : World) (hn : n < 9223372036854775808) :
    Calls Tryz.prog 114 #[.int .i64 (n : Int)] w fun e w' => ∃ v, e = .returned v ∧ NatV w' v n ∧ Below w.heap.size w w' := by
  obtain ⟨i0, hi, hz0, hz1, hz2⟩ := info_parts infoInt
  go_enter Tryz.func114, Tryz.ntmps114
  go_wp2
  go_loopw [0, 3] (fun x v wr => ∃ (m : Nat) (l : List Nat), x = .int .i64 (m : Int) ∧ m < 9223372036854775808 ∧ wr.ownsRow w.heap.size 3 1 v l.length (l.map dv) ∧ Below w.heap.size w wr ∧ (∀ d ∈ l, d < 16777216) ∧ nval l + 16777216 ^ l.length * m = n ∧ (m = 0 → Canon l))
    (fun x _ _ => (intOf x).toNat)
  case atStart => exact ⟨n, [], rfl, hn, World.ownsRow_nil _ _ _ _, Below.refl _ _, by simp, by simp [nval], fun _ => canon_nil⟩
  case round =>
    obtain ⟨m, l, rfl, hm, hown, hb, hd, hv, hc⟩ := hrel
    have HV : Hid (nval l + 16777216 ^ l.length * m = n) := hv
    have HC : Hid (m = 0 → Canon l) := hc
    have HD : Hid (∀ d ∈ l, d < 16777216) := hd
    clear hv hc hd
    by_cases h0 : 0 < m
    · have hle := nat_len HV.out h0 hn
      go_wp2_with (first
        | (at_builtin; refine wpList_append_own _ rfl _ _ 40 rfl w.heap.size 3 i0 (.int .i64 0) 1 8 Tryz.underlying40 hi hz0 hz1 hz2 rfl (by decide) _ _ _ rfl (hown.alloc _) ⟨wr.heap.size, 0, none⟩ 1 1 [.int .i64 ((m % 16777216 : Nat) : Int)] rfl rfl ?c1 ?c2 ?c3 ?c4 ?c5 ?_)
        | go_in)
      case c1 =>
        intro j u hj
        match j, hj with
        | 0, hj => simp at hj; subst hj; simp [Addr.add]
      case c2 => intro u hu; simp at hu; subst hu; rfl
      case c3 => unfold maxLen; omega
      case c4 => omega
      case c5 => have := hb.size; simp; omega
      · intro v' w1 hown' hgrow _
        have R := push_step hown hb (Nat.le_refl _) hown' (d := m % 16777216) (by omega) hgrow
        clear hown' hgrow hown hb
        go_wp2
        go_roundw
        case rel =>
          refine ⟨m / 16777216, l ++ [m % 16777216], by go_num, by omega, R.1, R.2, ?_, ?_, fun h => canon_snoc (by omega)⟩
          · intro d hd
            rcases List.mem_append.1 hd with h | h
            · exact HD.out d h
            · simp at h; omega
          · rw [nval_snoc_div]; exact HV.out
        case measure => simp [intOf]; omega
    · have hm0 : m = 0 := by omega
      subst hm0
      go_wp2_with fail
      go_ret
      refine ⟨_, rfl, ?_, hb⟩
      have e : digits n = l := by
        have := HV.out
        rw [Nat.mul_zero, Nat.add_zero] at this
        rw [← this]
        exact digits_of l HD.out (HC.out trivial)
      unfold NatV
      rw [e]
      exact Dig.of_owns hown HD.out
end Go.Proofs.YtonhpkigoplmaaaGreatDoor
namespace Go.Proofs.YtonhpkigoplmaaaGreatDoor
open Go.RowKit

theorem take_snoc_getD (l : List Nat) (j : Nat) (h : j < l.length) : l.take (j + 1) = l.take j ++ [l.getD j 0] := by
  rw [List.take_succ_eq_append_getElem h]; simp [List.getD, List.getElem?_eq_getElem h]

theorem trim_step {l : List Nat} {j : Nat} (h : nval (l.take (j + 1)) = nval l) (hj : j + 1 ≤ l.length) (hz : l.getD j 0 = 0) : nval (l.take j) = nval l := by
  rw [take_snoc_getD l j hj, nval_snoc, hz] at h; omega

theorem trim_done {l : List Nat} {k : Nat} (h : nval (l.take k) = nval l) (hd : ∀ d ∈ l, d < 16777216) (hk : k ≤ l.length) (hz : k = 0 ∨ l.getD (k - 1) 0 ≠ 0) : digits (nval l) = l.take k := by
  rw [← h]
  refine digits_of _ (fun d hm => hd d (List.mem_of_mem_take hm)) ?_
  rcases hz with rfl | hz
  · simp [Canon]
  · rcases Nat.eq_zero_or_pos k with rfl | hp
    · simp [Canon]
    · obtain ⟨j, rfl⟩ : ∃ j, k = j + 1 := ⟨k - 1, by omega⟩
      rw [take_snoc_getD l j hk]
      exact canon_snoc (by simpa using hz)

theorem dig_take {w : World} {l : List Nat} {b off cap k : Nat} {cur : Array Value} (hbl : w.heap[b]? = some (.cells cur 3 (0, 0))) (hcap : l.length ≤ cap) (hk : k ≤ l.length) (hd : ∀ d ∈ l, d < 16777216)
    (hcell : ∀ i, i < l.length → cur[off + i]? = some (.int .i64 (l.getD i 0 : Nat))) : Dig w (.slice (some ⟨b, off, none⟩) k cap) (l.take k) := by
  have hl : (l.take k).length = k := by simp; omega
  refine ⟨fun d hm => hd d (List.mem_of_mem_take hm), Or.inr ⟨b, off, cap, cur, by rw [hl], hbl, by rw [hl]; omega, fun i hi => ?_⟩⟩
  rw [hl] at hi
  rw [hcell i (by omega)]
  simp [List.getD, hi]

theorem trim_any (l : List Nat) (v : Value) (w : World) (hD : Dig w v l) (hlen : l.length ≤ 2000000) :
    Calls Tryz.prog 164 #[v] w fun e w' => ∃ v', e = .returned v' ∧ NatV w v' (nval l) ∧ w' = w := by
  obtain ⟨hd, hD⟩ := hD
  rcases hD with ⟨rfl, rfl⟩ | ⟨b, off, cap, cur, rfl, hbl, hcap, hcell⟩
  · go_enter Tryz.func164, Tryz.ntmps164
    go_wp2
    refine wp_loop_rounds 1 ?_
    rw [rounds_succ]
    go_wp2
    go_ret
    exact ⟨_, rfl, ⟨by simp [nval, digits_zero], Or.inl ⟨rfl, rfl⟩⟩, rfl⟩
  · have HD : Hid (∀ d ∈ l, d < 16777216) := hd
    clear hd
    have HC : Hid (∀ i, i < l.length → cur[off + i]? = some (.int .i64 (l.getD i 0 : Nat))) := hcell
    have HBL : Hid (w.heap[b]? = some (.cells cur 3 (0, 0))) := hbl
    clear hcell hbl
    go_enter Tryz.func164, Tryz.ntmps164
    go_wp2
    go_loop [3] (fun x => ∃ k : Nat, k ≤ l.length ∧ x = .int .i64 (k : Int) ∧ nval (l.take k) = nval l) (fun x => (intOf x).toNat)
    case atStart => exact ⟨l.length, Nat.le_refl _, rfl, by rw [List.take_length]⟩
    case round =>
      obtain ⟨k, hk, rfl, hv⟩ := hrel
      have HV : Hid (nval (l.take k) = nval l) := hv
      clear hv
      by_cases hk0 : k = 0
      · subst hk0
        go_wp2
        go_ret
        refine ⟨_, rfl, ?_, rfl⟩
        have := trim_done HV.out HD.out (by omega) (Or.inl rfl)
        unfold NatV
        rw [this]
        exact dig_take HBL.out hcap (by omega) HD.out HC.out
      · obtain ⟨j, rfl⟩ : ∃ j, k = j + 1 := ⟨k - 1, by omega⟩
        have hc := (cell_of_cur HBL.out (off + j)).trans (HC.out j (by omega))
        generalize hdj : l.getD j 0 = d at hc
        have Hdj : Hid (l.getD j 0 = d) := hdj
        clear hdj
        by_cases hz : d = 0
        · subst hz
          go_wp2
          go_round
          case rel => exact ⟨j, by omega, by go_num, trim_step HV.out hk Hdj.out⟩
          case measure => simp [intOf]
        · have hz' : ((d : Int) == 0) = false := by simp; omega
          go_wp2
          go_ret
          refine ⟨_, rfl, ?_, rfl⟩
          have := trim_done HV.out HD.out hk (Or.inr (by rw [show j + 1 - 1 = j from rfl, Hdj.out]; exact hz))
          unfold NatV
          rw [this]
          exact dig_take HBL.out hcap hk HD.out HC.out

/-- How two natural numbers stand, as cmp tells it. -/
def cmpI (a b : Nat) : Int := if a < b then -1 else if a = b then 0 else 1

theorem lt_of_len {a b : Nat} (h : (digits a).length < (digits b).length) : a < b := by
  have h1 := lt_pow_len a
  have hb : digits b ≠ [] := fun e => by rw [e] at h; simp at h
  have h2 := le_nval hb (canon_digits b)
  rw [nval_digits] at h2
  have h3 : 16777216 ^ (digits a).length ≤ 16777216 ^ ((digits b).length - 1) := Nat.pow_le_pow_right (by decide) (by omega)
  omega

theorem nval_split (l : List Nat) (i : Nat) (h : i < l.length) : nval l = nval (l.take i) + 16777216 ^ i * (l.getD i 0 + 16777216 * nval (l.drop (i + 1))) := by
  have e : l = l.take i ++ (l.getD i 0 :: l.drop (i + 1)) := by
    have : l.drop i = l.getD i 0 :: l.drop (i + 1) := by
      rw [List.drop_eq_getElem_cons h]; simp [List.getD, List.getElem?_eq_getElem h]
    rw [← this, List.take_append_drop]
  conv => lhs; rw [e]
  rw [nval_append]
  simp only [nval, List.length_take]
  rw [Nat.min_eq_left (Nat.le_of_lt h)]

theorem cmp_lt {x y : List Nat} {i : Nat} (hx : i < x.length) (hy : i < y.length) (hdx : ∀ d ∈ x, d < 16777216) (ht : x.drop (i + 1) = y.drop (i + 1)) (hlt : x.getD i 0 < y.getD i 0) : nval x < nval y := by
  rw [nval_split x i hx, nval_split y i hy, ht]
  have h1 := nval_lt (x.take i) (fun d hm => hdx d (List.mem_of_mem_take hm))
  have hl : (x.take i).length = i := by simp; omega
  rw [hl] at h1
  have h2 : 16777216 ^ i * (x.getD i 0 + 16777216 * nval (y.drop (i + 1)) + 1) ≤ 16777216 ^ i * (y.getD i 0 + 16777216 * nval (y.drop (i + 1))) := Nat.mul_le_mul_left _ (by omega)
  rw [Nat.mul_add _ _ 1] at h2
  omega

theorem drop_step {x y : List Nat} {j : Nat} (hx : j < x.length) (hy : j < y.length) (ht : x.drop (j + 1) = y.drop (j + 1)) (he : x.getD j 0 = y.getD j 0) : x.drop j = y.drop j := by
  rw [List.drop_eq_getElem_cons hx, List.drop_eq_getElem_cons hy, ht]
  simp only [List.getD, List.getElem?_eq_getElem hx, List.getElem?_eq_getElem hy, Option.getD_some] at he
  rw [he]

theorem Dig.open {w : World} {v : Value} {l : List Nat} (h : Dig w v l) : ∃ ao cap, v = .slice ao l.length cap ∧ l.length ≤ cap ∧ (l.length = 0 ∨ ∃ b off, ao = some ⟨b, off, none⟩ ∧ b < w.heap.size ∧ ∀ i, i < l.length → w.cell? ⟨b, off + i, none⟩ = some (.int .i64 (l.getD i 0 : Nat))) := by
  obtain ⟨_, h⟩ := h
  rcases h with ⟨rfl, rfl⟩ | ⟨b, off, cap, cur, rfl, h1, h2, h3⟩
  · exact ⟨none, 0, rfl, by simp, Or.inl rfl⟩
  · exact ⟨_, _, rfl, h2, Or.inr ⟨b, off, rfl, (Array.getElem?_eq_some_iff.1 h1).1, fun i hi => (cell_of_cur h1 _).trans (h3 i hi)⟩⟩

theorem cmp_ne (x y : List Nat) (va vb : Value) (w : World) (hx : Dig w va x) (hy : Dig w vb y) (_hlx : x.length ≤ 1000000) (_hly : y.length ≤ 1000000) (h : x.length ≠ y.length) :
    Calls Tryz.prog 118 #[va, vb] w fun e w' => e = .returned (.int .i64 (if x.length < y.length then -1 else 1)) ∧ Below w.heap.size w w' := by
  obtain ⟨ao, ca, rfl, hca, ha⟩ := hx.open
  obtain ⟨bo, cb, rfl, hcb, hb⟩ := hy.open
  clear ha hb hx hy
  have h1 : ((x.length : Int) != (y.length : Int)) = true := by rw [bne_iff_ne]; omega
  by_cases hl : x.length < y.length
  · rw [if_pos hl]
    go_enter Tryz.func118, Tryz.ntmps118
    go_wp2
    go_ret
    exact ⟨rfl, Below.refl _ _⟩
  · rw [if_neg hl]
    go_enter Tryz.func118, Tryz.ntmps118
    go_wp2
    go_ret
    exact ⟨rfl, Below.refl _ _⟩

set_option maxHeartbeats 1000000 in
theorem cmp_eq (x y : List Nat) (va vb : Value) (w : World) (hx : Dig w va x) (hy : Dig w vb y) (hlx : x.length ≤ 1000000) (h : x.length = y.length) :
    Calls Tryz.prog 118 #[va, vb] w fun e w' => e = .returned (.int .i64 (cmpI (nval x) (nval y))) ∧ Below w.heap.size w w' := by
  have hdx := hx.1
  have hdy := hy.1
  obtain ⟨ao, ca, rfl, hca, ha⟩ := hx.open
  obtain ⟨bo, cb, rfl, hcb, hb⟩ := hy.open
  clear hx hy
  obtain ⟨n, hn⟩ : ∃ n, y.length = n := ⟨_, rfl⟩
  rw [h] at hlx hca ha ⊢
  rw [hn] at h hlx hca ha hcb hb ⊢
  have HX : Hid (x.length = n) := h
  have HY : Hid (y.length = n) := hn
  have HDX : Hid (∀ d ∈ x, d < 16777216) := hdx
  have HDY : Hid (∀ d ∈ y, d < 16777216) := hdy
  clear h hn hdx hdy
  by_cases hx0 : n = 0
  · subst hx0
    have hx : x = [] := List.length_eq_zero_iff.1 HX.out
    have hy : y = [] := List.length_eq_zero_iff.1 HY.out
    subst hx hy
    clear ha hb HX HY HDX HDY
    go_enter Tryz.func118, Tryz.ntmps118
    go_wp2
    refine wp_loop_rounds 1 ?_
    rw [rounds_succ]
    go_wp2
    go_ret
    exact ⟨rfl, Below.refl _ _⟩
  · obtain ⟨b1, o1, rfl, hb1, hc1⟩ := ha.resolve_left hx0
    obtain ⟨b2, o2, rfl, hb2, hc2⟩ := hb.resolve_left hx0
    clear ha hb
    have HC1 : Hid (∀ i, i < n → w.cell? ⟨b1, o1 + i, none⟩ = some (.int .i64 (x.getD i 0 : Nat))) := hc1
    have HC2 : Hid (∀ i, i < n → w.cell? ⟨b2, o2 + i, none⟩ = some (.int .i64 (y.getD i 0 : Nat))) := hc2
    clear hc1 hc2
    go_enter Tryz.func118, Tryz.ntmps118
    go_wp2
    go_loopw [5] (fun v wr => ∃ k : Nat, k ≤ n ∧ v = .int .i64 ((k : Int) - 1) ∧ x.drop k = y.drop k ∧ Below w.heap.size w wr) (fun v _ => (intOf v + 1).toNat)
    case atStart => exact ⟨n, Nat.le_refl _, rfl, by rw [List.drop_of_length_le (by rw [HX.out]; exact Nat.le_refl _), List.drop_of_length_le (by rw [HY.out]; exact Nat.le_refl _)], Below.refl _ _⟩
    case round =>
      obtain ⟨k, hk, rfl, ht, hbr⟩ := hrel
      have HT : Hid (x.drop k = y.drop k) := ht
      clear ht
      by_cases hk0 : k = 0
      · subst hk0
        go_wp2
        go_ret
        have e : x = y := by simpa using HT.out
        exact ⟨by rw [e]; simp [cmpI], hbr⟩
      · obtain ⟨j, rfl⟩ : ∃ j, k = j + 1 := ⟨k - 1, by omega⟩
        rw [show ((j + 1 : Nat) : Int) - 1 = (j : Int) by omega]
        have c1 := (hbr.cell (p := ⟨b1, o1 + j, none⟩) hb1).trans (HC1.out j (by omega))
        have c2 := (hbr.cell (p := ⟨b2, o2 + j, none⟩) hb2).trans (HC2.out j (by omega))
        have hx1 : Hid (j < x.length) := by show j < x.length; rw [HX.out]; omega
        have hy1 : Hid (j < y.length) := by show j < y.length; rw [HY.out]; omega
        generalize hp : x.getD j 0 = p at c1
        generalize hq : y.getD j 0 = q at c2
        have HP : Hid (x.getD j 0 = p) := hp
        have HQ : Hid (y.getD j 0 = q) := hq
        clear hp hq
        rcases Nat.lt_trichotomy p q with hpq | hpq | hpq
        · have t1 : ((p : Int) != (q : Int)) = true := by rw [bne_iff_ne]; omega
          go_wp2
          go_quiet (fail)
          go_wp2
          go_quiet (fail)
          go_wp2
          go_ret
          have r : cmpI (nval x) (nval y) = -1 := by
            have := cmp_lt hx1.out hy1.out HDX.out HT.out (by rw [HP.out, HQ.out]; exact hpq)
            unfold cmpI; rw [if_pos this]
          refine ⟨by rw [r]; rfl, ?_⟩
          repeat (first | exact hbr | refine below_drewN ?_ _)
        · subst hpq
          go_wp2
          go_quiet (fail)
          go_wp2
          go_roundw
          case rel =>
            refine ⟨j, by omega, by go_num, drop_step hx1.out hy1.out HT.out (by rw [HP.out, HQ.out]), ?_⟩
            repeat (first | exact hbr | refine below_drewN ?_ _)
          case measure => simp [intOf]
        · have t1 : ((p : Int) != (q : Int)) = true := by rw [bne_iff_ne]; omega
          go_wp2
          go_quiet (fail)
          go_wp2
          go_quiet (fail)
          go_wp2
          go_ret
          have r : cmpI (nval x) (nval y) = 1 := by
            have := cmp_lt hy1.out hx1.out HDY.out HT.out.symm (by rw [HP.out, HQ.out]; exact hpq)
            unfold cmpI; rw [if_neg (by omega), if_neg (by omega)]
          refine ⟨by rw [r]; rfl, ?_⟩
          repeat (first | exact hbr | refine below_drewN ?_ _)

theorem cmp_any (a b : Nat) (va vb : Value) (w : World) (ha : NatV w va a) (hb : NatV w vb b) (hla : (digits a).length ≤ 1000000) (hlb : (digits b).length ≤ 1000000) :
    Calls Tryz.prog 118 #[va, vb] w fun e w' => e = .returned (.int .i64 (cmpI a b)) ∧ Below w.heap.size w w' := by
  by_cases h : (digits a).length = (digits b).length
  · have := cmp_eq _ _ va vb w ha hb hla h
    rwa [nval_digits, nval_digits] at this
  · have := cmp_ne _ _ va vb w ha hb hla hlb h
    have e : (if (digits a).length < (digits b).length then (-1 : Int) else 1) = cmpI a b := by
      unfold cmpI
      by_cases hl : (digits a).length < (digits b).length
      · rw [if_pos hl, if_pos (lt_of_len hl)]
      · have := lt_of_len (a := b) (b := a) (by omega)
        rw [if_neg hl, if_neg (by omega), if_neg (by omega)]
    rwa [e] at this
end Go.Proofs.YtonhpkigoplmaaaGreatDoor
namespace Go.Proofs.YtonhpkigoplmaaaGreatDoor
open Go.RowKit

theorem nval_take_succ (x : List Nat) (i : Nat) : nval (x.take (i + 1)) = nval (x.take i) + 16777216 ^ i * x.getD i 0 := by
  by_cases h : i < x.length
  · rw [take_snoc_getD x i h, nval_snoc]
    have : (x.take i).length = i := by simp; omega
    rw [this]
  · rw [List.take_of_length_le (by omega), List.take_of_length_le (by omega)]
    simp [List.getD, List.getElem?_eq_none (Nat.le_of_not_lt h)]

theorem getD_lt {x : List Nat} (h : ∀ d ∈ x, d < 16777216) (i : Nat) : x.getD i 0 < 16777216 := by
  by_cases hi : i < x.length
  · simp only [List.getD, List.getElem?_eq_getElem hi, Option.getD_some]; exact h _ (List.getElem_mem hi)
  · simp [List.getD, List.getElem?_eq_none (Nat.le_of_not_lt hi)]

theorem canon_last {x : List Nat} {i : Nat} (h : Canon x) (hl : x.length = i + 1) : x.getD i 0 ≠ 0 := by
  unfold Canon at h
  intro e
  apply h
  rw [List.getLast?_eq_getElem?, hl]
  simp only [List.getD, Nat.add_sub_cancel] at e ⊢
  rw [List.getElem?_eq_getElem (by omega)] at e ⊢
  simpa using e

/-- What holds of the loop's variables. -/
structure PlusR (x y : List Nat) (i c : Nat) (l : List Nat) : Prop where
  len : l.length = i
  le : i + c ≤ max x.length y.length + 1
  one : c ≤ 1
  dig : ∀ d ∈ l, d < 16777216
  val : nval l + 16777216 ^ i * c = nval (x.take i) + nval (y.take i)
  canon : c = 0 → x.length ≤ i → y.length ≤ i → Canon l

theorem PlusR.step {x y l : List Nat} {i c p q : Nat} (h : PlusR x y i c l) (hx : ∀ d ∈ x, d < 16777216) (hy : ∀ d ∈ y, d < 16777216) (cx : Canon x) (cy : Canon y) (hp : x.getD i 0 = p) (hq : y.getD i 0 = q) (hgo : i < x.length ∨ i < y.length ∨ 0 < c) :
    PlusR x y (i + 1) ((c + p + q) / 16777216) (l ++ [(c + p + q) % 16777216]) := by
  have h1 := getD_lt hx i
  have h2 := getD_lt hy i
  have h3 := h.one
  rw [hp] at h1
  rw [hq] at h2
  refine ⟨by simp [h.len], ?_, by omega, ?_, ?_, ?_⟩
  · have := h.le
    by_cases e : i < x.length ∨ i < y.length
    · omega
    · have ep : p = 0 := by rw [← hp]; simp [List.getD, List.getElem?_eq_none (Nat.le_of_not_lt (fun h => e (Or.inl h)))]
      have eq : q = 0 := by rw [← hq]; simp [List.getD, List.getElem?_eq_none (Nat.le_of_not_lt (fun h => e (Or.inr h)))]
      omega
  · intro d hd
    rcases List.mem_append.1 hd with hd | hd
    · exact h.dig d hd
    · simp at hd; omega
  · have e := nval_snoc_div l (c + p + q)
    have el : (l ++ [(c + p + q) % 16777216]).length = i + 1 := by simp [h.len]
    rw [el, h.len] at e
    rw [e, nval_take_succ, nval_take_succ, hp, hq, Nat.mul_add, Nat.mul_add]
    have := h.val
    omega
  · intro hc hxl hyl
    apply canon_snoc
    have hn : (c + p + q) % 16777216 = c + p + q := by omega
    rw [hn]
    rcases hgo with hgo | hgo | hgo
    · have := canon_last cx (i := i) (by omega); omega
    · have := canon_last cy (i := i) (by omega); omega
    · omega

theorem PlusR.done {x y l : List Nat} {i : Nat} (h : PlusR x y i 0 l) (hx : x.length ≤ i) (hy : y.length ≤ i) : digits (nval x + nval y) = l := by
  have := h.val
  rw [List.take_of_length_le hx, List.take_of_length_le hy] at this
  have e : nval x + nval y = nval l := by omega
  rw [e]
  exact digits_of l h.dig (h.canon rfl hx hy)

set_option maxHeartbeats 4000000 in
theorem plus_dig (x y : List Nat) (va vb : Value) (w : World) (hx : Dig w va x) (hy : Dig w vb y) (cx : Canon x) (cy : Canon y) (hlx : x.length ≤ 1000000) (hly : y.length ≤ 1000000) :
    Calls Tryz.prog 117 #[va, vb] w fun e w' => ∃ v, e = .returned v ∧ NatV w' v (nval x + nval y) ∧ Below w.heap.size w w' := by
  obtain ⟨i0, hi, hz0, hz1, hz2⟩ := info_parts infoInt
  have HDX : Hid (∀ d ∈ x, d < 16777216) := hx.1
  have HDY : Hid (∀ d ∈ y, d < 16777216) := hy.1
  have HCX : Hid (Canon x) := cx
  have HCY : Hid (Canon y) := cy
  obtain ⟨ao, ca, rfl, hca, ha⟩ := hx.open
  obtain ⟨bo, cb, rfl, hcb, hb⟩ := hy.open
  have HA : Hid (x.length = 0 ∨ ∃ b off, ao = some ⟨b, off, none⟩ ∧ b < w.heap.size ∧ ∀ i, i < x.length → w.cell? ⟨b, off + i, none⟩ = some (.int .i64 (x.getD i 0 : Nat))) := ha
  have HB : Hid (y.length = 0 ∨ ∃ b off, bo = some ⟨b, off, none⟩ ∧ b < w.heap.size ∧ ∀ i, i < y.length → w.cell? ⟨b, off + i, none⟩ = some (.int .i64 (y.getD i 0 : Nat))) := hb
  clear hx hy cx cy ha hb
  go_enter Tryz.func117, Tryz.ntmps117
  go_wp2
  go_loopw [5, 6, 7] (fun v5 v6 v7 wr => ∃ (i c : Nat) (l : List Nat), v7 = .int .i64 (i : Int) ∧ v6 = .int .i64 (c : Int) ∧ wr.ownsRow w.heap.size 3 1 v5 l.length (l.map dv) ∧ PlusR x y i c l ∧ Below w.heap.size w wr) (fun _ _ v7 _ => x.length + y.length + 1 - (intOf v7).toNat)
  case atStart => exact ⟨0, 0, [], rfl, rfl, World.ownsRow_nil _ _ _ _, ⟨rfl, Nat.zero_le _, Nat.zero_le _, by simp, by simp [nval], fun _ _ _ => canon_nil⟩, Below.refl _ _⟩
  case round =>
    obtain ⟨i, c, l, rfl, rfl, hown, hR, hbr⟩ := hrel
    have hc1 := hR.one
    have hle := hR.le
    have hll := hR.len
    have hlen : l.length ≤ 2000001 := by omega
    have HR : Hid (PlusR x y i c l) := hR
    have hi2 : i ≤ 2000001 := by omega
    generalize hp : x.getD i 0 = p
    generalize hq : y.getD i 0 = q
    have hpl : p < 16777216 := by rw [← hp]; exact getD_lt HDX.out i
    have hql : q < 16777216 := by rw [← hq]; exact getD_lt HDY.out i
    have S : i < x.length ∨ i < y.length ∨ 0 < c → Hid (PlusR x y (i + 1) ((c + p + q) / 16777216) (l ++ [(c + p + q) % 16777216])) := hR.step HDX.out HDY.out HCX.out HCY.out hp hq
    have HP : Hid (x.getD i 0 = p) := hp
    have HQ : Hid (y.getD i 0 = q) := hq
    clear hR hll hp hq
    rcases (show (i < x.length ∧ i < y.length) ∨ (i < x.length ∧ ¬ i < y.length) ∨ (¬ i < x.length ∧ i < y.length) ∨ (¬ i < x.length ∧ ¬ i < y.length ∧ 0 < c) ∨ (¬ i < x.length ∧ ¬ i < y.length ∧ c = 0) by omega) with ⟨g1, g2⟩ | ⟨g1, g2⟩ | ⟨g1, g2⟩ | ⟨g1, g2, g3⟩ | ⟨g1, g2, g3⟩
    · have S := S (Or.inl g1)
      have cxa : ∃ b1 o1, ao = some ⟨b1, o1, none⟩ ∧ wr.cell? ⟨b1, o1 + i, none⟩ = some (.int .i64 (p : Int)) := by
        obtain ⟨b1, o1, h1, h2, h3⟩ := HA.out.resolve_left (by omega)
        exact ⟨b1, o1, h1, by rw [hbr.cell (p := ⟨b1, o1 + i, none⟩) h2, h3 i g1, HP.out]⟩
      obtain ⟨b1, o1, rfl, c1⟩ := cxa
      have cyb : ∃ b2 o2, bo = some ⟨b2, o2, none⟩ ∧ wr.cell? ⟨b2, o2 + i, none⟩ = some (.int .i64 (q : Int)) := by
        obtain ⟨b2, o2, h1, h2, h3⟩ := HB.out.resolve_left (by omega)
        exact ⟨b2, o2, h1, by rw [hbr.cell (p := ⟨b2, o2 + i, none⟩) h2, h3 i g2, HQ.out]⟩
      obtain ⟨b2, o2, rfl, c2⟩ := cyb
      go_wp2_with (first
        | (at_builtin; refine wpList_append_own _ rfl _ _ 40 rfl w.heap.size 3 i0 (.int .i64 0) 1 8 Tryz.underlying40 hi hz0 hz1 hz2 rfl (by decide) _ _ _ rfl (hown.alloc _) ⟨wr.heap.size, 0, none⟩ 1 1 [.int .i64 (((c : Int) + p + q) % 16777216)] rfl rfl ?a1 ?a2 ?a3 ?a4 ?a5 ?_)
        | go_in)
      case a1 =>
        intro j u hj
        match j, hj with
        | 0, hj => simp at hj; subst hj; simp [Addr.add]
      case a2 => intro u hu; simp at hu; subst hu; rfl
      case a3 => unfold maxLen; omega
      case a4 => omega
      case a5 => have := hbr.size; simp; omega
      · intro v' w1 hown' hgrow _
        have R := push_step hown hbr (Nat.le_refl _) hown' (d := (c + p + q) % 16777216) (by omega) hgrow
        clear hown' hgrow hown hbr
        go_wp2
        go_roundw
        case rel => exact ⟨_, _, l ++ [(c + p + q) % 16777216], by go_num, by go_num, R.1, S.out, R.2⟩
        case measure => simp [intOf]; omega
    · have S := S (Or.inl g1)
      have cxa : ∃ b1 o1, ao = some ⟨b1, o1, none⟩ ∧ wr.cell? ⟨b1, o1 + i, none⟩ = some (.int .i64 (p : Int)) := by
        obtain ⟨b1, o1, h1, h2, h3⟩ := HA.out.resolve_left (by omega)
        exact ⟨b1, o1, h1, by rw [hbr.cell (p := ⟨b1, o1 + i, none⟩) h2, h3 i g1, HP.out]⟩
      obtain ⟨b1, o1, rfl, c1⟩ := cxa
      have hq0 : q = 0 := by rw [← HQ.out]; simp [List.getD, List.getElem?_eq_none (Nat.le_of_not_lt g2)]
      have HQ0 : Hid (q = 0) := hq0
      clear hq0
      go_wp2_with (first
        | (at_builtin; refine wpList_append_own _ rfl _ _ 40 rfl w.heap.size 3 i0 (.int .i64 0) 1 8 Tryz.underlying40 hi hz0 hz1 hz2 rfl (by decide) _ _ _ rfl (hown.alloc _) ⟨wr.heap.size, 0, none⟩ 1 1 [.int .i64 (((c : Int) + p) % 16777216)] rfl rfl ?b1 ?b2 ?b3 ?b4 ?b5 ?_)
        | go_in)
      case b1 =>
        intro j u hj
        match j, hj with
        | 0, hj => simp at hj; subst hj; simp [Addr.add]
      case b2 => intro u hu; simp at hu; subst hu; rfl
      case b3 => unfold maxLen; omega
      case b4 => omega
      case b5 => have := hbr.size; simp; omega
      · intro v' w1 hown' hgrow _
        have R := push_step hown hbr (Nat.le_refl _) hown' (d := (c + p + q) % 16777216) (by have := HQ0.out; omega) hgrow
        clear hown' hgrow hown hbr
        go_wp2
        go_roundw
        case rel => exact ⟨_, _, l ++ [(c + p + q) % 16777216], by go_num, by rw [HQ0.out]; go_num, R.1, S.out, R.2⟩
        case measure => simp [intOf]; omega
    · have S := S (Or.inr (Or.inl g2))
      have cyb : ∃ b2 o2, bo = some ⟨b2, o2, none⟩ ∧ wr.cell? ⟨b2, o2 + i, none⟩ = some (.int .i64 (q : Int)) := by
        obtain ⟨b2, o2, h1, h2, h3⟩ := HB.out.resolve_left (by omega)
        exact ⟨b2, o2, h1, by rw [hbr.cell (p := ⟨b2, o2 + i, none⟩) h2, h3 i g2, HQ.out]⟩
      obtain ⟨b2, o2, rfl, c2⟩ := cyb
      have hp0 : p = 0 := by rw [← HP.out]; simp [List.getD, List.getElem?_eq_none (Nat.le_of_not_lt g1)]
      have HP0 : Hid (p = 0) := hp0
      clear hp0
      go_wp2_with (first
        | (at_builtin; refine wpList_append_own _ rfl _ _ 40 rfl w.heap.size 3 i0 (.int .i64 0) 1 8 Tryz.underlying40 hi hz0 hz1 hz2 rfl (by decide) _ _ _ rfl (hown.alloc _) ⟨wr.heap.size, 0, none⟩ 1 1 [.int .i64 (((c : Int) + q) % 16777216)] rfl rfl ?c1 ?c2 ?c3 ?c4 ?c5 ?_)
        | go_in)
      case c1 =>
        intro j u hj
        match j, hj with
        | 0, hj => simp at hj; subst hj; simp [Addr.add]
      case c2 => intro u hu; simp at hu; subst hu; rfl
      case c3 => unfold maxLen; omega
      case c4 => omega
      case c5 => have := hbr.size; simp; omega
      · intro v' w1 hown' hgrow _
        have R := push_step hown hbr (Nat.le_refl _) hown' (d := (c + p + q) % 16777216) (by have := HP0.out; omega) hgrow
        clear hown' hgrow hown hbr
        go_wp2
        go_roundw
        case rel => exact ⟨_, _, l ++ [(c + p + q) % 16777216], by go_num, by rw [HP0.out]; go_num, R.1, S.out, R.2⟩
        case measure => simp [intOf]; omega
    · have S := S (Or.inr (Or.inr g3))
      have hp0 : p = 0 := by rw [← HP.out]; simp [List.getD, List.getElem?_eq_none (Nat.le_of_not_lt g1)]
      have hq0 : q = 0 := by rw [← HQ.out]; simp [List.getD, List.getElem?_eq_none (Nat.le_of_not_lt g2)]
      have HP0 : Hid (p = 0) := hp0
      have HQ0 : Hid (q = 0) := hq0
      clear hp0 hq0
      go_wp2_with (first
        | (at_builtin; refine wpList_append_own _ rfl _ _ 40 rfl w.heap.size 3 i0 (.int .i64 0) 1 8 Tryz.underlying40 hi hz0 hz1 hz2 rfl (by decide) _ _ _ rfl (hown.alloc _) ⟨wr.heap.size, 0, none⟩ 1 1 [.int .i64 (((c : Int)) % 16777216)] rfl rfl ?d1 ?d2 ?d3 ?d4 ?d5 ?_)
        | go_in)
      case d1 =>
        intro j u hj
        match j, hj with
        | 0, hj => simp at hj; subst hj; simp [Addr.add]
      case d2 => intro u hu; simp at hu; subst hu; rfl
      case d3 => unfold maxLen; omega
      case d4 => omega
      case d5 => have := hbr.size; simp; omega
      · intro v' w1 hown' hgrow _
        have R := push_step hown hbr (Nat.le_refl _) hown' (d := (c + p + q) % 16777216) (by have := HP0.out; have := HQ0.out; omega) hgrow
        clear hown' hgrow hown hbr
        go_wp2
        go_roundw
        case rel => exact ⟨_, _, l ++ [(c + p + q) % 16777216], by go_num, by rw [HP0.out, HQ0.out]; go_num, R.1, S.out, R.2⟩
        case measure => simp [intOf]; omega
    · subst g3
      go_wp2_with fail
      go_ret
      refine ⟨_, rfl, ?_, hbr⟩
      unfold NatV
      rw [HR.out.done (by omega) (by omega)]
      exact Dig.of_owns hown HR.out.dig

theorem plus_any (a b : Nat) (va vb : Value) (w : World) (ha : NatV w va a) (hb : NatV w vb b) (hla : (digits a).length ≤ 1000000) (hlb : (digits b).length ≤ 1000000) :
    Calls Tryz.prog 117 #[va, vb] w fun e w' => ∃ v, e = .returned v ∧ NatV w' v (a + b) ∧ Below w.heap.size w w' := by
  have := plus_dig _ _ va vb w ha hb (canon_digits a) (canon_digits b) hla hlb
  rwa [nval_digits, nval_digits] at this
end Go.Proofs.YtonhpkigoplmaaaGreatDoor
namespace Go.Proofs.YtonhpkigoplmaaaGreatDoor
open Go.RowKit

/-- What holds of the loop's variables. -/
structure MinusR (x y : List Nat) (i t : Nat) (l : List Nat) : Prop where
  len : l.length = i
  le : i ≤ x.length
  one : t ≤ 1
  dig : ∀ d ∈ l, d < 16777216
  val : nval l + nval (y.take i) = nval (x.take i) + 16777216 ^ i * t

theorem MinusR.step {x y l : List Nat} {i t t' p q d : Nat} (h : MinusR x y i t l) (hi : i < x.length) (_hx : ∀ d ∈ x, d < 16777216) (_hy : ∀ d ∈ y, d < 16777216) (hp : x.getD i 0 = p) (hq : y.getD i 0 = q) (he : d + q + t = p + 16777216 * t') (ht : t' ≤ 1) (hd : d < 16777216) :
    MinusR x y (i + 1) t' (l ++ [d]) := by
  refine ⟨by simp [h.len], by omega, ht, ?_, ?_⟩
  · intro d' hd'
    rcases List.mem_append.1 hd' with hd' | hd'
    · exact h.dig d' hd'
    · simp at hd'; omega
  · rw [nval_snoc, h.len, nval_take_succ, nval_take_succ, hp, hq, Nat.pow_succ]
    have hv := h.val
    generalize 16777216 ^ i = P at *
    have e1 : P * (d + q + t) = P * (p + 16777216 * t') := by rw [he]
    rw [Nat.mul_add, Nat.mul_add, Nat.mul_add, ← Nat.mul_assoc] at e1
    omega

theorem MinusR.done {x y l : List Nat} {t : Nat} (h : MinusR x y x.length t l) (hy : y.length ≤ x.length) (hle : nval y ≤ nval x) : nval l = nval x - nval y := by
  have hv := h.val
  rw [List.take_of_length_le hy, List.take_of_length_le (Nat.le_refl _)] at hv
  have h1 := nval_lt l h.dig
  rw [h.len] at h1
  have ht : t = 0 := by
    have := h.one
    rcases Nat.eq_zero_or_pos t with h0 | h0
    · exact h0
    · have : t = 1 := by omega
      subst this
      omega
  subst ht
  omega

set_option maxHeartbeats 4000000 in
set_option maxRecDepth 100000 in
theorem minus_dig (x y : List Nat) (va vb : Value) (w : World) (hx : Dig w va x) (hy : Dig w vb y) (hle : nval y ≤ nval x) (hl : y.length ≤ x.length) (hlx : x.length ≤ 1000000) :
    Calls Tryz.prog 119 #[va, vb] w fun e w' => ∃ v, e = .returned v ∧ NatV w' v (nval x - nval y) ∧ Below w.heap.size w w' := by
  obtain ⟨i0, hi, hz0, hz1, hz2⟩ := info_parts infoInt
  have HDX : Hid (∀ d ∈ x, d < 16777216) := hx.1
  have HDY : Hid (∀ d ∈ y, d < 16777216) := hy.1
  have HLE : Hid (nval y ≤ nval x) := hle
  obtain ⟨ao, ca, rfl, hca, ha⟩ := hx.open
  obtain ⟨bo, cb, rfl, hcb, hb⟩ := hy.open
  have HA : Hid (x.length = 0 ∨ ∃ b off, ao = some ⟨b, off, none⟩ ∧ b < w.heap.size ∧ ∀ i, i < x.length → w.cell? ⟨b, off + i, none⟩ = some (.int .i64 (x.getD i 0 : Nat))) := ha
  have HB : Hid (y.length = 0 ∨ ∃ b off, bo = some ⟨b, off, none⟩ ∧ b < w.heap.size ∧ ∀ i, i < y.length → w.cell? ⟨b, off + i, none⟩ = some (.int .i64 (y.getD i 0 : Nat))) := hb
  clear hx hy hle ha hb
  go_enter Tryz.func119, Tryz.ntmps119
  go_wp2
  go_loopw [5, 6, 7] (fun v5 v6 v7 wr => ∃ (i t : Nat) (l : List Nat), v7 = .int .i64 (i : Int) ∧ v6 = .int .i64 (t : Int) ∧ wr.ownsRow w.heap.size 3 1 v5 l.length (l.map dv) ∧ MinusR x y i t l ∧ Below w.heap.size w wr) (fun _ _ v7 _ => x.length - (intOf v7).toNat)
  case atStart => exact ⟨0, 0, [], rfl, rfl, World.ownsRow_nil _ _ _ _, ⟨rfl, Nat.zero_le _, Nat.zero_le _, by simp, by simp [nval]⟩, Below.refl _ _⟩
  case round =>
    obtain ⟨i, t, l, rfl, rfl, hown, hR, hbr⟩ := hrel
    have ht1 := hR.one
    have hle := hR.le
    have hll := hR.len
    have hlen : l.length ≤ 1000000 := by omega
    have HR : Hid (MinusR x y i t l) := hR
    generalize hp : x.getD i 0 = p
    generalize hq : y.getD i 0 = q
    have hpl : p < 16777216 := by rw [← hp]; exact getD_lt HDX.out i
    have hql : q < 16777216 := by rw [← hq]; exact getD_lt HDY.out i
    have HP : Hid (x.getD i 0 = p) := hp
    have HQ : Hid (y.getD i 0 = q) := hq
    clear hR hll hp hq
    rcases (show (i < x.length ∧ i < y.length ∧ q + t ≤ p) ∨ (i < x.length ∧ i < y.length ∧ p < q + t) ∨ (i < x.length ∧ ¬ i < y.length ∧ t ≤ p) ∨ (i < x.length ∧ ¬ i < y.length ∧ p < t) ∨ ¬ i < x.length by omega) with ⟨g1, g2, g3⟩ | ⟨g1, g2, g3⟩ | ⟨g1, g2, g3⟩ | ⟨g1, g2, g3⟩ | g1
    · have cxa : ∃ b1 o1, ao = some ⟨b1, o1, none⟩ ∧ wr.cell? ⟨b1, o1 + i, none⟩ = some (.int .i64 (p : Int)) := by
        obtain ⟨b1, o1, h1, h2, h3⟩ := HA.out.resolve_left (by omega)
        exact ⟨b1, o1, h1, by rw [hbr.cell (p := ⟨b1, o1 + i, none⟩) h2, h3 i g1, HP.out]⟩
      obtain ⟨b1, o1, rfl, c1⟩ := cxa
      have cyb : ∃ b2 o2, bo = some ⟨b2, o2, none⟩ ∧ wr.cell? ⟨b2, o2 + i, none⟩ = some (.int .i64 (q : Int)) := by
        obtain ⟨b2, o2, h1, h2, h3⟩ := HB.out.resolve_left (by omega)
        exact ⟨b2, o2, h1, by rw [hbr.cell (p := ⟨b2, o2 + i, none⟩) h2, h3 i g2, HQ.out]⟩
      obtain ⟨b2, o2, rfl, c2⟩ := cyb
      go_wp2_with (first
        | (at_builtin; refine wpList_append_own _ rfl _ _ 40 rfl w.heap.size 3 i0 (.int .i64 0) 1 8 Tryz.underlying40 hi hz0 hz1 hz2 rfl (by decide) _ _ _ rfl (hown.alloc _) ⟨wr.heap.size, 0, none⟩ 1 1 [.int .i64 ((p : Int) - t - q)] rfl rfl ?a1 ?a2 ?a3 ?a4 ?a5 ?_)
        | go_in)
      case a1 =>
        intro j u hj
        match j, hj with
        | 0, hj => simp at hj; subst hj; simp [Addr.add]
      case a2 => intro u hu; simp at hu; subst hu; rfl
      case a3 => unfold maxLen; omega
      case a4 => omega
      case a5 => have := hbr.size; simp; omega
      · intro v' w1 hown' hgrow _
        have R := push_step hown hbr (Nat.le_refl _) hown' (d := p - t - q) (by omega) hgrow
        clear hown' hgrow hown hbr
        go_wp2
        go_roundw
        case rel => exact ⟨i + 1, 0, l ++ [p - t - q], by go_num, by go_num, R.1, HR.out.step g1 HDX.out HDY.out HP.out HQ.out (by omega) (by omega) (by omega), R.2⟩
        case measure => simp [intOf]; omega
    · have cxa : ∃ b1 o1, ao = some ⟨b1, o1, none⟩ ∧ wr.cell? ⟨b1, o1 + i, none⟩ = some (.int .i64 (p : Int)) := by
        obtain ⟨b1, o1, h1, h2, h3⟩ := HA.out.resolve_left (by omega)
        exact ⟨b1, o1, h1, by rw [hbr.cell (p := ⟨b1, o1 + i, none⟩) h2, h3 i g1, HP.out]⟩
      obtain ⟨b1, o1, rfl, c1⟩ := cxa
      have cyb : ∃ b2 o2, bo = some ⟨b2, o2, none⟩ ∧ wr.cell? ⟨b2, o2 + i, none⟩ = some (.int .i64 (q : Int)) := by
        obtain ⟨b2, o2, h1, h2, h3⟩ := HB.out.resolve_left (by omega)
        exact ⟨b2, o2, h1, by rw [hbr.cell (p := ⟨b2, o2 + i, none⟩) h2, h3 i g2, HQ.out]⟩
      obtain ⟨b2, o2, rfl, c2⟩ := cyb
      go_wp2_with (first
        | (at_builtin; refine wpList_append_own _ rfl _ _ 40 rfl w.heap.size 3 i0 (.int .i64 0) 1 8 Tryz.underlying40 hi hz0 hz1 hz2 rfl (by decide) _ _ _ rfl (hown.alloc _) ⟨wr.heap.size, 0, none⟩ 1 1 [.int .i64 ((p : Int) - t - q + 16777216)] rfl rfl ?b1 ?b2 ?b3 ?b4 ?b5 ?_)
        | go_in)
      case b1 =>
        intro j u hj
        match j, hj with
        | 0, hj => simp at hj; subst hj; simp [Addr.add]
      case b2 => intro u hu; simp at hu; subst hu; rfl
      case b3 => unfold maxLen; omega
      case b4 => omega
      case b5 => have := hbr.size; simp; omega
      · intro v' w1 hown' hgrow _
        have R := push_step hown hbr (Nat.le_refl _) hown' (d := p + 16777216 - t - q) (by omega) hgrow
        clear hown' hgrow hown hbr
        go_wp2
        go_roundw
        case rel => exact ⟨i + 1, 1, l ++ [p + 16777216 - t - q], by go_num, by go_num, R.1, HR.out.step g1 HDX.out HDY.out HP.out HQ.out (by omega) (by omega) (by omega), R.2⟩
        case measure => simp [intOf]; omega
    · have cxa : ∃ b1 o1, ao = some ⟨b1, o1, none⟩ ∧ wr.cell? ⟨b1, o1 + i, none⟩ = some (.int .i64 (p : Int)) := by
        obtain ⟨b1, o1, h1, h2, h3⟩ := HA.out.resolve_left (by omega)
        exact ⟨b1, o1, h1, by rw [hbr.cell (p := ⟨b1, o1 + i, none⟩) h2, h3 i g1, HP.out]⟩
      obtain ⟨b1, o1, rfl, c1⟩ := cxa
      have hq0 : q = 0 := by rw [← HQ.out]; simp [List.getD, List.getElem?_eq_none (Nat.le_of_not_lt g2)]
      have HQ0 : Hid (q = 0) := hq0
      clear hq0
      go_wp2_with (first
        | (at_builtin; refine wpList_append_own _ rfl _ _ 40 rfl w.heap.size 3 i0 (.int .i64 0) 1 8 Tryz.underlying40 hi hz0 hz1 hz2 rfl (by decide) _ _ _ rfl (hown.alloc _) ⟨wr.heap.size, 0, none⟩ 1 1 [.int .i64 ((p : Int) - t)] rfl rfl ?c1 ?c2 ?c3 ?c4 ?c5 ?_)
        | go_in)
      case c1 =>
        intro j u hj
        match j, hj with
        | 0, hj => simp at hj; subst hj; simp [Addr.add]
      case c2 => intro u hu; simp at hu; subst hu; rfl
      case c3 => unfold maxLen; omega
      case c4 => omega
      case c5 => have := hbr.size; simp; omega
      · intro v' w1 hown' hgrow _
        have R := push_step hown hbr (Nat.le_refl _) hown' (d := p - t) (by have := HQ0.out; omega) hgrow
        clear hown' hgrow hown hbr
        go_wp2
        go_roundw
        case rel => exact ⟨i + 1, 0, l ++ [p - t], by go_num, by go_num, R.1, HR.out.step g1 HDX.out HDY.out HP.out HQ.out (by have := HQ0.out; omega) (by omega) (by have := HQ0.out; omega), R.2⟩
        case measure => simp [intOf]; omega
    · have cxa : ∃ b1 o1, ao = some ⟨b1, o1, none⟩ ∧ wr.cell? ⟨b1, o1 + i, none⟩ = some (.int .i64 (p : Int)) := by
        obtain ⟨b1, o1, h1, h2, h3⟩ := HA.out.resolve_left (by omega)
        exact ⟨b1, o1, h1, by rw [hbr.cell (p := ⟨b1, o1 + i, none⟩) h2, h3 i g1, HP.out]⟩
      obtain ⟨b1, o1, rfl, c1⟩ := cxa
      have hq0 : q = 0 := by rw [← HQ.out]; simp [List.getD, List.getElem?_eq_none (Nat.le_of_not_lt g2)]
      have HQ0 : Hid (q = 0) := hq0
      clear hq0
      go_wp2_with (first
        | (at_builtin; refine wpList_append_own _ rfl _ _ 40 rfl w.heap.size 3 i0 (.int .i64 0) 1 8 Tryz.underlying40 hi hz0 hz1 hz2 rfl (by decide) _ _ _ rfl (hown.alloc _) ⟨wr.heap.size, 0, none⟩ 1 1 [.int .i64 ((p : Int) - t + 16777216)] rfl rfl ?d1 ?d2 ?d3 ?d4 ?d5 ?_)
        | go_in)
      case d1 =>
        intro j u hj
        match j, hj with
        | 0, hj => simp at hj; subst hj; simp [Addr.add]
      case d2 => intro u hu; simp at hu; subst hu; rfl
      case d3 => unfold maxLen; omega
      case d4 => omega
      case d5 => have := hbr.size; simp; omega
      · intro v' w1 hown' hgrow _
        have R := push_step hown hbr (Nat.le_refl _) hown' (d := p + 16777216 - t) (by have := HQ0.out; omega) hgrow
        clear hown' hgrow hown hbr
        go_wp2
        go_roundw
        case rel => exact ⟨i + 1, 1, l ++ [p + 16777216 - t], by go_num, by go_num, R.1, HR.out.step g1 HDX.out HDY.out HP.out HQ.out (by have := HQ0.out; omega) (by omega) (by have := HQ0.out; omega), R.2⟩
        case measure => simp [intOf]; omega
    · have hie : i = x.length := by omega
      subst hie
      have hD := Dig.of_owns hown HR.out.dig
      go_wp2_with fail
      refine (trim_any l _ _ hD (by omega)).mono ?_
      rintro e w' ⟨v', rfl, hN, rfl⟩
      rw [HR.out.done hl HLE.out] at hN
      go_wp2_with fail
      go_ret
      exact ⟨_, rfl, hN, hbr⟩

theorem len_le_of_le {a b : Nat} (h : b ≤ a) : (digits b).length ≤ (digits a).length := by
  rcases Nat.lt_or_ge (digits a).length (digits b).length with h' | h'
  · have := lt_of_len h'; omega
  · exact h'

theorem minus_any (a b : Nat) (va vb : Value) (w : World) (ha : NatV w va a) (hb : NatV w vb b) (hle : b ≤ a) (hla : (digits a).length ≤ 1000000) :
    Calls Tryz.prog 119 #[va, vb] w fun e w' => ∃ v, e = .returned v ∧ NatV w' v (a - b) ∧ Below w.heap.size w w' := by
  have := minus_dig _ _ va vb w ha hb (by rw [nval_digits, nval_digits]; exact hle) (len_le_of_le hle) hla
  rwa [nval_digits, nval_digits] at this
end Go.Proofs.YtonhpkigoplmaaaGreatDoor
