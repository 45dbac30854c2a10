/- Trees drawn: they are small, their keys are numbers of the machine; what the library's variables hold serves all. -/
import Derived.Test.YtagaaeolgecdmaaGreatDoorDrwT2
import Derived.Test.YtagaaeolgecdmaaGreatDoorTreM
import Derived.Test.YtagaaeolgecdmaaGreatDoorTre17
namespace Go.Proofs.YtagaaeolgecdmaaGreatDoor
open Go.Joins Go.ChangeShapes Go.WideShapes Go.ChangeAt Go.RowKit Go.Deep
set_option linter.unusedVariables false
set_option linter.unusedSimpArgs false

theorem shOk : ShOk Vs := ⟨fun w w' h hb => h.next hb, fun s w hl hv => ishown_any s w hl hv⟩
theorem gsm : ∀ t, GdT t → SmT t := Tr.by_kids fun t ih h => by
  cases h with
  | mk h0 h1 h2 h3 h4 h5 => exact .mk (by unfold maxLen; omega) (by unfold maxLen; omega) (fun x hx => by have := h2 x hx; unfold maxLen; omega) (by unfold maxLen; omega) (fun x hx => ih x hx (h4 x hx))
theorem gkey {t : Tr} (h : GdT t) : -1000 ≤ t.key ∧ t.key ≤ 1000 := by cases h with | mk h0 h1 h2 h3 h4 h5 => exact h5
theorem small_wf (z : Int) (h : -1000 ≤ z ∧ z ≤ 1000) : (Lit.int .i64 z).wf = true := by
  have e1 : IntKind.min .i64 = -9223372036854775808 := by decide
  have e2 : IntKind.max .i64 = 9223372036854775807 := by decide
  simp only [Lit.wf, Bool.and_eq_true, decide_eq_true_eq]
  rw [e1, e2]
  omega
theorem gkw : ∀ t, GdT t → KwT t := Tr.by_kids fun t ih h => by
  cases h with
  | mk h0 h1 h2 h3 h4 h5 => exact .mk (fun x hx => small_wf _ (gkey (h4 x hx))) (fun x hx => ih x hx (h4 x hx)) (by omega)
theorem gks {t : Tr} (h : GdT t) : t.ks.length ≤ 10 ∧ ∀ x ∈ t.ks, GdT x := by cases h with | mk h0 h1 h2 h3 h4 h5 => exact ⟨h3, h4⟩
end Go.Proofs.YtagaaeolgecdmaaGreatDoor
