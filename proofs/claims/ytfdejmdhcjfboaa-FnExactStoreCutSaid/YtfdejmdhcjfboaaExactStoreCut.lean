/- The law FnExactStoreCut answers true at every store and place, and leaves them as they were. No conditions. -/
import Derived.Test.YtfdejmdhcjfboaaExactStoreCutW
namespace Go.Proofs.Ytfdejmdhcjfboaa.fnExactStoreCut
open Go.Joins Go.ChangeShapes Go.WideShapes Go.ChangeAt Go.RowKit Go.Deep
set_option linter.unusedVariables false
set_option linter.unusedSimpArgs false

set_option maxRecDepth 100000 in
theorem contract (H : Type) (enc : TypeId × Value → H) (W : World) (base : Nat) (args : Array Value) (ds gs : List (DataW H)) (before : List MemPlace)
    (hval : ∀ (j : Nat) t v, Try.f12.params[j]? = some t → args[j]? = some v → Value.okWide Try.prog W .any base t v)
    (hW : DataW.Whole enc Try.prog Try.f12.params.toList Rows.fnExactStoreCutSpec.vars false W args.toList ds gs before) :
    Calls Try.prog 12 args W fun e W' => ∃ v, e = .returned v ∧ Rows.fnExactStoreCutSpec.post enc Try.prog Try.f12 false true false false W args v W' := by
  have hW' := hW
  obtain ⟨p, q, hA0, hV, rfl, hfz, hnd⟩ := hW
  have hA : DataW.TrodAll enc Try.prog W 0 (fun _ => true) true Try.f12.params.toList args.toList ds p := hA0
  rw [Try.params12] at hA hval
  obtain ⟨v0, vs0, d0, ds0, p0, q0, hargs, rfl, rfl, h0, r0⟩ := trodAll_cons hA
  obtain ⟨v1, vs1, d1, ds1, p1, q1, rfl, rfl, rfl, h1, r1⟩ := trodAll_cons r0
  obtain ⟨rfl, rfl, rfl⟩ := trodAll_nil r1
  obtain rfl : args = #[v0, v1] := by cases args; simp_all
  obtain ⟨rfl, rfl⟩ := trodVars_none hV
  obtain ⟨A0, c0, xs0, rfl, hs0, hcap0, hx0, hst0⟩ := open_cells (hval 0 _ v0 rfl rfl) h0 (fun x hx => by simpa using hW'.lt x (by simp [hx]))
  obtain ⟨A1, c1, xs1, rfl, hs1, hcap1, hx1⟩ := open_slots (hval 1 _ v1 rfl rfl) h1 (fun x hx => by simpa using hW'.lt x (by simp [hx]))
  exact (walk A0 c0 xs0 A1 c1 xs1 W hs0 hx0 hst0 hs1 hx1).mono fun e W' ⟨he, hB⟩ => ⟨_, he, law_post rfl rfl hW' laidOut (of_decide_eq_true (by kernel_rfl)) rfl Try.underlying4 hB⟩

set_option maxRecDepth 100000 in
theorem lifted (os : Os) (started : os.Started) (H : Type) (enc : TypeId × Value → H) :
    ReturnsInHanded {} Try.checked os 12 .any (Rows.fnExactStoreCutSpec.pre6 enc Try.prog Try.f12 Rows.fnExactStoreCutRow.domain false) (Rows.fnExactStoreCutSpec.post enc Try.prog Try.f12 false true false false) := by
  refine returnsInHanded_of_change (C := Try.checked) own started (by kernel_rfl) Try.func12
    (ChangeSpec.witness6 (enc := enc) (C := Try.checked) false ⟨#[], #[.slice none 0 0, .slice none 0 0], []⟩ 8 (by kernel_rfl) (by kernel_rfl) (by kernel_rfl) (by kernel_rfl)) ?_
  intro W base args ds gs before hval hW _ _
  exact contract H enc W base args ds gs before hval hW

set_option maxRecDepth 100000 in
theorem named : Try.checked.prog.funcNamed Rows.fnExactStoreCutRow.func = some 12 := by kernel_rfl
set_option maxRecDepth 100000 in
set_option maxHeartbeats 8000000 in
theorem closed : joinedFacts Try.checked.prog 12 Try.f12 Rows.fnExactStoreCutSpec Rows.fnExactStoreCutRow = true := by
  unfold joinedFacts
  simp only [Bool.and_eq_true]
  repeat' apply And.intro
  all_goals (as_aux_lemma => kernel_rfl)
set_option maxRecDepth 100000 in
theorem inst : Try.f12.isInstance Try.checked.prog Rows.fnExactStoreCutRow.origin Rows.fnExactStoreCutRow.targs := of_decide_eq_true (by kernel_rfl)
set_option maxRecDepth 100000 in
theorem wrap : Try.f12.isWrapper Try.checked.prog Rows.fnExactStoreCutRow.wrapper Rows.fnExactStoreCutRow.mainSum := by unfold Func.isWrapper; first | (rw [if_pos (by decide +kernel)]; kernel_rfl) | (rw [if_neg (by decide +kernel)]; exact ⟨rfl, rfl⟩)
set_option maxRecDepth 100000 in
theorem proved : Rows.FnExactStoreCutSaid :=
  OpenClaim.holds_of_wide 12 Try.f12 rfl rfl rfl rfl rfl rfl rfl ⟨rfl, rfl, rfl, rfl, rfl⟩ rfl rfl rfl rfl rfl named Try.func12 closed inst wrap
    (fun os started H enc _ => lifted os started H enc)
end Go.Proofs.Ytfdejmdhcjfboaa.fnExactStoreCut
