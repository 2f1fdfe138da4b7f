/-
  EvalsProof.
-/
import Derived.Test.YtonhpkigoplmaaaGreatDoorRows
import Derived.Test.YtonhpkigoplmaaaGreatDoorCards
import Derived.Test.YtonhpkigoplmaaaGreatDoorTie
import Derived.Test.YtonhpkigoplmaaaGreatDoorE02
import Derived.Test.YtonhpkigoplmaaaGreatDoorJ21
import Derived.Test.YtonhpkigoplmaaaGreatDoorJ22
import Derived.ProofKit
import Derived.LaidMore
import Derived.OpenShut
import Derived.Stop.Joined
import Derived.SevenTiedAt
import Derived.SizedLaws
namespace Go.Proofs.YtonhpkigoplmaaaGreatDoor
open Go.ChangeShapes Go.WideShapes Go.ChangeAt Go.RowKit Go.Deep

theorem evals_k_own : ownKnob Tryz.prog.godebug = none := by kernel_rfl
theorem evals_k_laidOut : laidOutB Tryz.prog = true := by kernel_rfl
theorem evals_k_bytesOp : Tryz.prog.bytesOf 31 = 96 := by kernel_rfl
theorem evals_k_readable : Tryz.prog.readableRec 22 = true := by kernel_rfl

theorem evals_door_met (os : Os) (args : Array Value) : laidMetH Tryz.prog Rows.evalsRow.laid ((World.doorLaid Tryz.prog 187 os).forCall (fun _ _ => 0) ⟨#[], args, []⟩).memory :=
  laidMetH_of_parts3 (fuel := 8) (laidMet_of_run' 8 (by kernel_rfl) (by kernel_rfl)) (by kernel_rfl) (by kernel_rfl)

theorem evals_laid {W : World} (h : laidMetH Tryz.prog Rows.evalsRow.laid W) : ∃ A, Sents A W := by
  have h' : laidMet Tryz.prog sentsL W ∧ handlesMet Tryz.prog handleL W := h
  exact sents_of_laid h'.1 h'.2

set_option maxRecDepth 100000 in
theorem evals_lifted (os : Os) (started : os.Started) (H : Type) (enc : TypeId × Value → H) :
    ReturnsInHanded {} Tryz.checked os 8 .any (fun w args => (Rows.evalsSpec.pre enc Tryz.prog Tryz.f8 [] false w args ∧ laidMetH Tryz.prog Rows.evalsRow.laid w) ∧ sizedMet enc Tryz.prog Tryz.f8 (OpenSpec.ofChange Rows.evalsSpec) false w args)
      (Rows.evalsSpec.post enc Tryz.prog Tryz.f8 false true false false) := by
  refine returnsInHanded_of_change_and (C := Tryz.checked) (X := fun w _ => laidMetH Tryz.prog Rows.evalsRow.laid w) (fun _ _ _ hh h => h.of_heap hh) evals_k_own started (by kernel_rfl) Tryz.func8
    (ChangeSpec.witness_shaped (enc := enc) (C := Tryz.checked) (os := os) (X := fun w _ => laidMetH Tryz.prog Rows.evalsRow.laid w) false (World.doorLaid Tryz.prog 187 os) #[.slice none 0 0] 8 rfl (World.shaped_of_RefB (by kernel_rfl) (by kernel_rfl)) (by kernel_rfl) (by kernel_rfl) (by kernel_rfl) (evals_door_met os _)) ?_
  intro W base args ds gs before hval0 hW _ hsz0 hL _
  have hval : ∀ (j : Nat) t v, Tryz.f8.params[j]? = some t → args[j]? = some v → Value.okWide Tryz.prog W .any base t v := hval0
  have hW' := hW
  obtain ⟨p, q, hA0, hV, rfl, hfz, hnd⟩ := hW
  have hA : DataW.TrodAll enc Tryz.prog W 0 (fun _ => true) true Tryz.f8.params.toList args.toList ds p := hA0
  have hsz : (DataW.weightsEach Tryz.prog (Tryz.f8.params.toList ++ Rows.evalsSpec.plain.varTypes Tryz.prog) (ds ++ gs)).all (· ≤ reachBytes) = true := hsz0
  rw [Tryz.params8] at hA hval hsz
  obtain ⟨v0, d0, hargs, rfl, h0⟩ := trodAll_one hA
  obtain ⟨rfl, rfl⟩ := trodVars_none hV
  obtain ⟨A, hS⟩ := evals_laid hL
  obtain rfl : args = #[v0] := by
    obtain ⟨l⟩ := args
    simpa using hargs
  have hlt : ∀ x ∈ p, x.block < W.heap.size := fun x hx => by simpa using hW'.lt x (by simpa using hx)
  have h0k := h0
  obtain ⟨fuel, hf⟩ := h0
  obtain ⟨z, ao, n, c, rfl, hz, hx, hd⟩ := script_of hf (okWide_slice Tryz.underlying22 (hval 0 22 v0 rfl rfl))
  have hn : n ≤ 1466015503701 := by
    rcases hd with ⟨_, h⟩ | ⟨es, sp, rfl, hlen⟩
    · omega
    · have := sized_slice hsz (j := 0) (t := 22) (e := 31) rfl rfl Tryz.underlying22
      rw [evals_k_bytesOp] at this
      simp only [reachBytes] at this
      omega
  have hPx : ∀ i, i < n → ∃ q : Nat → Nat, WdV W (z.po i) (z.pl i) q ∧ z.pl i * 8 ≤ 140737488355328 := by
    intro i hi
    obtain ⟨g, off, rfl, hg, hat⟩ := hz.resolve_left (by omega)
    obtain ⟨-, -, -, -, -, -, -, -, c8⟩ := hat i hi
    obtain ⟨⟨q, hq⟩, hk⟩ := script_words hf hi c8
    refine ⟨q, hq, ?_⟩
    rcases hk with h0 | ⟨k, hk, hle⟩
    · omega
    · have := List.all_eq_true.1 hsz k (DataW.weights_mem_each (j := 0) (t := 22) (d := d0) rfl rfl k hk)
      have h2 : k ≤ reachBytes := by simpa using this
      simp only [reachBytes] at h2
      omega
  obtain ⟨P, hP⟩ := choose_lt hPx
  refine (evals_any A z P ao n c W hn hS hz (fun i hi => (hx i hi).1) hP).mono fun e W' ⟨he, hb⟩ => ?_
  subst he
  have e1 : Rows.evalsSpec.fn H ([d0] ++ []) = { results := [.lit (.bool true)], args := [d0] } := by simp [Rows.evalsSpec]
  refine ⟨_, rfl, _, _, _, [], p, [], hW', ?_, ?_, ?_, hb.frame _, fun h => by cases h⟩
  · rw [e1]; exact trodAll_mk1 (shut_bool Tryz.underlying4 true)
  · rw [e1]; exact trodAll_mk1 (Below.trod evals_k_laidOut evals_k_readable (of_decide_eq_true (by kernel_rfl)) h0k hb hlt)
  · rw [e1]; rfl

theorem evals_holds : Rows.EvalsSaid :=
  OpenClaim.holds_of_wide 8 Tryz.f8 rfl rfl rfl rfl rfl rfl rfl ⟨rfl, rfl, rfl, rfl, rfl⟩ rfl rfl rfl rfl rfl (by kernel_rfl) Tryz.func8 (by kernel_rfl)
    (of_decide_eq_true (by kernel_rfl)) (by unfold Func.isWrapper; rw [if_neg (of_decide_eq_false (by kernel_rfl))]; exact ⟨rfl, rfl⟩)
    (fun os started H enc _ => evals_lifted os started H enc)

theorem evals_card : Rows.EvalsCardSaid :=
  Claim7.holds_tied_plain_at .later [] _ _ _ _ evals_holds (fun _ h => by cases h) (by kernel_rfl) (fun _ h => by cases h) evals_row_tie rfl ⟨rfl, rfl⟩ (by kernel_rfl) rfl
    (fun f fn hf hfn => by
      obtain rfl : f = 8 := Option.some.inj ((show Tryz.prog.funcNamed "enclose/encloselaw.Evals" = some 8 by kernel_rfl).symm.trans hf) |>.symm
      obtain rfl : fn = Tryz.f8 := (Option.some.inj (Tryz.func8.symm.trans hfn)).symm
      exact ⟨by kernel_rfl, fun j t ht => by
        rw [Tryz.params8] at ht
        have h3 : t = 22 := by
          rcases j with _ | j
          · simpa using ht.symm
          · simp at ht
        subst h3
        exact (show Tryz.prog.wantsStandIn 22 = false by kernel_rfl)⟩)
    (by kernel_rfl)
#print axioms evals_card
end Go.Proofs.YtonhpkigoplmaaaGreatDoor
