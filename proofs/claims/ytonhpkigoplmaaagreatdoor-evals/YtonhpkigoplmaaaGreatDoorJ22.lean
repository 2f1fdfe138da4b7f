/-
  Laid, OpsProof.
-/
import Derived.Test.YtonhpkigoplmaaaGreatDoorJ04
import Derived.LaidLaws
import Derived.LaidHandle
import Derived.Stop.LaidTwo
import Derived.Test.YtonhpkigoplmaaaGreatDoorRows
import Derived.Test.YtonhpkigoplmaaaGreatDoorCards
import Derived.Test.YtonhpkigoplmaaaGreatDoorTie
import Derived.Test.YtonhpkigoplmaaaGreatDoorJ21
import Derived.ProofKit
import Derived.LaidMore
import Derived.OpenShut
import Derived.Stop.Joined
import Derived.SevenTiedAt
import Derived.SizedLaws
namespace Go.Proofs.YtonhpkigoplmaaaGreatDoor
open Go.RowKit

theorem sents_vars {P : Program} {nm : String} {W : World} {ti tp te ts : TypeId} {ms : Array (String × TypeId)} {f : Field}
    (hi : P.underlying ti = some (.interface ms)) (hrow : ∀ u, P.typeName? 3 u = some nm → u = tp)
    (hp : P.underlying tp = some (.pointer te)) (he : P.underlying te = some (.struct #[f])) (hft : f.type = ts) (hfo : f.offset = 0) (hs : P.underlying ts = some .string) (hc : P.cellsOf te = 1) (hcs : P.cellsOf ts = 1) :
    ∀ (l : List (String × List UInt8)) (gs : Nat → Nat) (ps : List MemPlace), DataW.LaidVars P W (l.map fun x => (x.1, .iface nm (.ptr (.agg [.lit (.string x.2)])))) ps →
      (∀ k (h : k < l.length), P.globalNamed l[k].1 = some (gs k) ∧ (P.globals[gs k]?).map (·.type) = some ti) →
      (∀ b off, MemPlace.cell b off ∈ ps → (∃ c t, W.heap[b]? = some (.cells c t (0, 0))) ∧ ∀ u v, W.cell? ⟨b, off, none⟩ = some (.iface u v) → Value.okWide P W .any 0 u v) →
      ∃ A : Nat → Addr, (∀ k, k < l.length → W.cell? ⟨gs k, 0, none⟩ = some (.iface tp (.pointer (some (A k)))) ∧ MemPlace.cell (A k).block (A k).off ∈ ps) ∧ (ps.Nodup → ∀ j k, j < k → k < l.length → A j ≠ A k)
  | [], gs, ps, h, hg, hr => ⟨fun _ => ⟨0, 0, none⟩, fun k hk => absurd hk (by simp), fun _ j k _ hk => absurd hk (by simp)⟩
  | x :: l, gs, ps, h, hg, hr => by
    obtain ⟨g, t, cs, fuel, p, q, hgn, ht, hv, hd, hq, rfl⟩ := h
    obtain ⟨hg1, ht1⟩ := hg 0 (by simp)
    obtain rfl := Option.some.inj (hg1.symm.trans hgn)
    obtain rfl := Option.some.inj (ht1.symm.trans ht)
    have ok0 : ∀ u v, cs.toList = [.iface u v] → Value.okWide P W .any 0 u v := fun u v e => by
      obtain ⟨l0⟩ := cs
      simp only at e
      subst e
      exact (hr (gs 0) 0 (by simp [MemPlace.row])).2 u v (by simpa using World.var?_cell hgn hv 0)
    obtain ⟨a, s, hcl, ha, _, _, rfl⟩ := errorString_of_trod hi hrow hp he hft hfo hs hc hcs hd ok0
    obtain ⟨A, h1, h2⟩ := sents_vars hi hrow hp he hft hfo hs hc hcs l (fun k => gs (k + 1)) q hq
      (fun k hk => by
        have := hg (k + 1) (by simpa using hk)
        simpa using this)
      (fun b off hm => hr b off (by simp [hm]))
    refine ⟨fun k => match k with | 0 => a | k + 1 => A k, fun k hk => ?_, fun hnd j k hjk hk => ?_⟩
    · match k, hk with
      | 0, _ =>
        have := World.var?_cell hgn hv 0
        rw [Array.eq_one_of_toList hcl] at this
        exact ⟨by simpa using this, by simp [MemPlace.row]⟩
      | k + 1, hk =>
        have := h1 k (by simpa using hk)
        refine ⟨this.1, ?_⟩
        · simp only [List.mem_append]; exact Or.inr this.2
    · have hq' : q.Nodup := (List.nodup_append.1 hnd).2.1
      match j, k, hjk, hk with
      | 0, k + 1, _, hk =>
        have h3 := (h1 k (by simpa using hk)).2
        show a ≠ A k
        rintro rfl
        exact (List.nodup_append.1 hnd).2.2 (MemPlace.cell (A k).block (A k).off) (by simp [MemPlace.row]) _ h3 rfl
      | j + 1, k + 1, hjk, hk => exact h2 hq' j k (by omega) (by simpa using hk)

def errs9 : List (String × List UInt8) := [("enclose/enclose.ErrFloat", [110, 111, 32, 112, 108, 97, 105, 110, 32, 102, 108, 111, 97, 116]),
  ("enclose/enclose.ErrOrder", [101, 110, 100, 115, 32, 105, 110, 32, 116, 104, 101, 32, 119, 114, 111, 110, 103, 32, 111, 114, 100, 101, 114]),
  ("enclose/enclose.ErrRange", [111, 117, 116, 32, 111, 102, 32, 114, 97, 110, 103, 101]),
  ("enclose/enclose.ErrZero", [100, 105, 118, 105, 115, 105, 111, 110, 32, 98, 121, 32, 119, 104, 97, 116, 32, 104, 111, 108, 100, 115, 32, 48]),
  ("enclose/enclose.ErrNegative", [114, 111, 111, 116, 32, 111, 102, 32, 119, 104, 97, 116, 32, 105, 115, 32, 98, 101, 108, 111, 119, 32, 48]),
  ("enclose/enclose.ErrEmpty", [110, 111, 116, 104, 105, 110, 103, 32, 105, 110, 32, 99, 111, 109, 109, 111, 110]),
  ("enclose/enclose.ErrName", [110, 111, 32, 115, 117, 99, 104, 32, 111, 112, 101, 114, 97, 116, 105, 111, 110]),
  ("enclose/enclose.ErrShape", [119, 114, 111, 110, 103, 32, 115, 104, 97, 112, 101]),
  ("enclose/enclose.ErrSure", [110, 111, 116, 32, 115, 117, 114, 101, 32, 111, 102, 32, 97, 110, 32, 97, 110, 115, 119, 101, 114])]
def sentsL : List (String × DataW Unit) := errs9.map fun x => (x.1, .iface "*errors.errorString" (.ptr (.agg [.lit (.string x.2)])))
def handleL : List (String × DataW Unit) := [("errors.errorType", .iface "internal/reflectlite.rtype" (.agg [.ptr (.lit (.string [101, 114, 114, 111, 114]))]))]

theorem k_globals : (List.range 9).all (fun k => match errs9[k]? with | some x => Tryz.prog.globalNamed x.1 == some (gix k) && (Tryz.prog.globals[gix k]?).map (·.type) == some 70 | none => false) = true := by kernel_rfl
theorem k_et : Tryz.prog.globalNamed "errors.errorType" = some 9 := by kernel_rfl
theorem k_rt : (Tryz.prog.cutTypes.find? (·.1 == "internal/reflectlite.rtype")).map (·.2) = some 216 := by kernel_rfl
theorem k_oneRow : ((List.range 263).filter fun t => Tryz.prog.rowNamed t [101, 114, 114, 111, 114]) = [70] := by kernel_rfl
theorem k_size : Tryz.prog.types.size = 263 := by kernel_rfl
theorem k_star : "*" ++ "errors.errorString" = "*errors.errorString" := by decide
theorem k_row (u : TypeId) (h : Tryz.prog.typeName? 3 u = some "*errors.errorString") : u = 229 :=
  typeName_ptr_named (nm := "errors.errorString") (by rw [k_star]; kernel_rfl) (by kernel_rfl) (by decide) u (by rw [k_star]; exact h)
theorem k_cellsES : Tryz.prog.cellsOf 251 = 1 := by kernel_rfl
theorem k_cellsS : Tryz.prog.cellsOf 9 = 1 := by kernel_rfl

theorem sents_of_laid {W : World} (hd : laidMet Tryz.prog sentsL W) (hh : handlesMet Tryz.prog handleL W) : ∃ A, Sents A W := by
  obtain ⟨ps, hv, hnd, hr⟩ := hd
  obtain ⟨A, h1, h2⟩ := sents_vars (P := Tryz.prog) Tryz.underlying70 k_row Tryz.underlying229 Tryz.underlying251 rfl rfl Tryz.underlying9 k_cellsES k_cellsS errs9 gix ps hv
    (fun k hk => by
      have := List.all_eq_true.1 k_globals k (List.mem_range.2 hk)
      rw [List.getElem?_eq_getElem hk] at this
      simpa using this) hr
  have hl : errs9.length = 9 := rfl
  rw [hl] at h1 h2
  refine ⟨A, ?_, fun k hk => by simpa using (h1 k hk).1, fun k hk => (hr _ _ (h1 k hk).2).1, h2 hnd⟩
  obtain ⟨name, u, ty, e1, e2, e3, e4, e5⟩ := hh _ (List.mem_singleton.2 rfl)
  have en : name = [101, 114, 114, 111, 114] := (Option.some.inj e1).symm
  subst en
  obtain rfl := Option.some.inj (k_rt.symm.trans e2)
  have hm : ty ∈ (List.range 263).filter fun t => Tryz.prog.rowNamed t [101, 114, 114, 111, 114] := List.mem_filter.2 ⟨List.mem_range.2 (by rw [← k_size]; exact e3), e4⟩
  rw [k_oneRow] at hm
  obtain rfl := List.mem_singleton.1 hm
  have hh : typeHandle Tryz.prog 70 = .pointer (some ⟨11, 70, none⟩) := by kernel_rfl
  rw [hh] at e5
  simpa using World.var?_cell k_et e5 0
end Go.Proofs.YtonhpkigoplmaaaGreatDoor
namespace Go.Proofs.YtonhpkigoplmaaaGreatDoor
open Go.ChangeShapes Go.WideShapes Go.ChangeAt Go.RowKit

theorem k_own : ownKnob Tryz.prog.godebug = none := by kernel_rfl
theorem k_laidOut : laidOutB Tryz.prog = true := by kernel_rfl
theorem k_bytesOp : Tryz.prog.bytesOf 31 = 96 := by kernel_rfl
theorem k_readable : Tryz.prog.readableRec 22 = true := by kernel_rfl

theorem door_met (os : Os) (args : Array Value) : laidMetH Tryz.prog Rows.opsRow.laid ((World.doorLaid Tryz.prog 187 os).forCall (fun _ _ => 0) ⟨#[], args, []⟩).memory :=
  laidMetH_of_parts3 (fuel := 8) (laidMet_of_run' 8 (by kernel_rfl) (by kernel_rfl)) (by kernel_rfl) (by kernel_rfl)

theorem ops_laid {W : World} (h : laidMetH Tryz.prog Rows.opsRow.laid W) : ∃ A, Sents A W := by
  have h' : laidMet Tryz.prog sentsL W ∧ handlesMet Tryz.prog handleL W := h
  exact sents_of_laid h'.1 h'.2

set_option maxRecDepth 100000 in
theorem ops_lifted (os : Os) (started : os.Started) (H : Type) (enc : TypeId × Value → H) :
    ReturnsInHanded {} Tryz.checked os 4 .any (fun w args => (Rows.opsSpec.pre enc Tryz.prog Tryz.f4 [] false w args ∧ laidMetH Tryz.prog Rows.opsRow.laid w) ∧ sizedMet enc Tryz.prog Tryz.f4 (OpenSpec.ofChange Rows.opsSpec) false w args)
      (Rows.opsSpec.post enc Tryz.prog Tryz.f4 false true false false) := by
  refine returnsInHanded_of_change_and (C := Tryz.checked) (X := fun w _ => laidMetH Tryz.prog Rows.opsRow.laid w) (fun _ _ _ hh h => h.of_heap hh) k_own started (by kernel_rfl) Tryz.func4
    (ChangeSpec.witness_shaped (enc := enc) (C := Tryz.checked) (os := os) (X := fun w _ => laidMetH Tryz.prog Rows.opsRow.laid w) false (World.doorLaid Tryz.prog 187 os) #[.slice none 0 0] 8 rfl (World.shaped_of_RefB (by kernel_rfl) (by kernel_rfl)) (by kernel_rfl) (by kernel_rfl) (by kernel_rfl) (door_met os _)) ?_
  intro W base args ds gs before hval0 hW _ hsz0 hL _
  have hval : ∀ (j : Nat) t v, Tryz.f4.params[j]? = some t → args[j]? = some v → Value.okWide Tryz.prog W .any base t v := hval0
  have hW' := hW
  obtain ⟨p, q, hA0, hV, rfl, hfz, hnd⟩ := hW
  have hA : DataW.TrodAll enc Tryz.prog W 0 (fun _ => true) true Tryz.f4.params.toList args.toList ds p := hA0
  have hsz : (DataW.weightsEach Tryz.prog (Tryz.f4.params.toList ++ Rows.opsSpec.plain.varTypes Tryz.prog) (ds ++ gs)).all (· ≤ reachBytes) = true := hsz0
  rw [Tryz.params4] at hA hval hsz
  obtain ⟨v0, d0, hargs, rfl, h0⟩ := trodAll_one hA
  obtain ⟨rfl, rfl⟩ := trodVars_none hV
  obtain ⟨A, hS⟩ := ops_laid hL
  obtain rfl : args = #[v0] := by
    obtain ⟨l⟩ := args
    simpa using hargs
  have hlt : ∀ x ∈ p, x.block < W.heap.size := fun x hx => by simpa using hW'.lt x (by simpa using hx)
  have h0k := h0
  obtain ⟨fuel, hf⟩ := h0
  obtain ⟨z, ao, n, c, rfl, hz, hx, hd⟩ := script_of hf (okWide_slice Tryz.underlying22 (hval 0 22 v0 rfl rfl))
  have hn : n ≤ 1466015503701 := by
    rcases hd with ⟨_, h⟩ | ⟨es, sp, rfl, hlen⟩
    · omega
    · have := sized_slice hsz (j := 0) (t := 22) (e := 31) rfl rfl Tryz.underlying22
      rw [k_bytesOp] at this
      simp only [reachBytes] at this
      omega
  refine (ops_any A z ao n c W hn hS hz (fun i hi => ⟨(hx i hi).1.1, (hx i hi).1.2, (hx i hi).2.1.1, (hx i hi).2.1.2⟩)).mono fun e W' ⟨he, hb⟩ => ?_
  subst he
  have e1 : Rows.opsSpec.fn H ([d0] ++ []) = { results := [.lit (.bool true)], args := [d0] } := by simp [Rows.opsSpec]
  refine ⟨_, rfl, _, _, _, [], p, [], hW', ?_, ?_, ?_, hb.frame _, fun h => by cases h⟩
  · rw [e1]; exact trodAll_mk1 (shut_bool Tryz.underlying4 true)
  · rw [e1]; exact trodAll_mk1 (Below.trod k_laidOut k_readable (of_decide_eq_true (by kernel_rfl)) h0k hb hlt)
  · rw [e1]; rfl

theorem ops_holds : Rows.OpsSaid :=
  OpenClaim.holds_of_wide 4 Tryz.f4 rfl rfl rfl rfl rfl rfl rfl ⟨rfl, rfl, rfl, rfl, rfl⟩ rfl rfl rfl rfl rfl (by kernel_rfl) Tryz.func4 (by kernel_rfl)
    (of_decide_eq_true (by kernel_rfl)) (by unfold Func.isWrapper; rw [if_neg (of_decide_eq_false (by kernel_rfl))]; exact ⟨rfl, rfl⟩)
    (fun os started H enc _ => ops_lifted os started H enc)

theorem ops_card : Rows.OpsCardSaid :=
  Claim7.holds_tied_plain_at .later [] _ _ _ _ ops_holds (fun _ h => by cases h) (by kernel_rfl) (fun _ h => by cases h) ops_row_tie rfl ⟨rfl, rfl⟩ (by kernel_rfl) rfl
    (fun f fn hf hfn => by
      obtain rfl : f = 4 := Option.some.inj ((show Tryz.prog.funcNamed "enclose/encloselaw.Ops" = some 4 by kernel_rfl).symm.trans hf) |>.symm
      obtain rfl : fn = Tryz.f4 := (Option.some.inj (Tryz.func4.symm.trans hfn)).symm
      exact ⟨by kernel_rfl, fun j t ht => by
        rw [Tryz.params4] at ht
        have h3 : t = 22 := by
          rcases j with _ | j
          · simpa using ht.symm
          · simp at ht
        subst h3
        exact (show Tryz.prog.wantsStandIn 22 = false by kernel_rfl)⟩)
    (by kernel_rfl)
#print axioms ops_card
end Go.Proofs.YtonhpkigoplmaaaGreatDoor
