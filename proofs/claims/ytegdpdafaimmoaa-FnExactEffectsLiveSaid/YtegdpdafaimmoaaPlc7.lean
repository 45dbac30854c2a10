/- Places: the program's own order of two slots, and of places. -/
import Derived.Test.YtegdpdafaimmoaaPlc6
namespace Go.Proofs.Ytegdpdafaimmoaa
open Go.Joins Go.ChangeShapes Go.WideShapes Go.ChangeAt Go.RowKit Go.Deep
set_option linter.unusedVariables false
set_option linter.unusedSimpArgs false

set_option maxHeartbeats 1000000 in
theorem order_any (x y : Sl) (w : World) :
    Calls Try.prog 47 #[.agg #[.int .i64 x.p, .int .i64 x.s], .agg #[.int .i64 y.p, .int .i64 y.s]] w fun e w' => e = .returned (.int .i64 (ordS x y)) ∧ Below w.heap.size w w' := by
  have HV := Lib.hid (show ordS x y = orI (cmpI x.p y.p) (cmpI x.s y.s) from rfl)
  obtain ⟨p, s⟩ := x
  obtain ⟨q, t⟩ := y
  dsimp only at HV
  go_enter Try.func47, Try.ntmps47
  go_wp2_with fail
  go_region_held3 (fun w' => w'.cell? ⟨w.heap.size, 0, none⟩ = some (.int .i64 p) ∧ w'.cell? ⟨w.heap.size, 1, none⟩ = some (.int .i64 s) ∧ w'.cell? ⟨w.heap.size + 1, 0, none⟩ = some (.int .i64 q) ∧ w'.cell? ⟨w.heap.size + 1, 1, none⟩ = some (.int .i64 t)) (go_keep)
    (first | (go_at_call 62; refine (compare_any _ _ _).mono ?_; rintro e w' ⟨rfl, rfl⟩)
           | (go_at_call 61; refine (or_any _ (cmpI p q) (cmpI s t) _ ?_ ?_).mono ?_; (simp [go_sem]); (simp [go_sem]); rintro e w' ⟨rfl, rfl⟩))
  all_goals go_wp2_with fail
  all_goals go_ret
  all_goals exact ⟨ret_int HV.out.symm, by go_grown⟩
end Go.Proofs.Ytegdpdafaimmoaa
