/- Values: how the laws compare them. -/
import Derived.Test.YtcpfjlbicofkeaaDoorLay1
namespace Go.Proofs.YtcpfjlbicofkeaaDoor
open Go.Joins Go.ChangeShapes Go.WideShapes Go.ChangeAt Go.RowKit Go.Deep
set_option linter.unusedVariables false
set_option linter.unusedSimpArgs false

set_option maxHeartbeats 400000 in
theorem eqValue_any (x y : Va) (w : World) :
    Calls Tryd.prog 62 #[.agg #[.int .i64 x.k, .int .i64 x.n, .string x.s], .agg #[.int .i64 y.k, .int .i64 y.n, .string y.s]] w fun e w' => e = .returned (.bool (decide (x = y))) ∧ Below w.heap.size w w' := by
  rcases va_ways x y with ⟨h1, hv⟩ | ⟨h1, h2, hv⟩ | ⟨h1, h2, h3, hv⟩ | rfl
  · have HV := Lib.hid hv
    have h1'' : (x.k != y.k) = true := by show (!(x.k == y.k)) = true; rw [h1]; rfl
    clear hv
    go_enter Tryd.func62, Tryd.ntmps62
    go_wp2
    go_ret
    exact ⟨ret_bool HV.out.symm, by go_grown⟩
  · have HV := Lib.hid hv
    obtain ⟨p, q, s⟩ := x
    obtain ⟨p', q', s'⟩ := y
    dsimp only at h1 h2
    subst h1
    have h2'' : (q != q') = true := by show (!(q == q')) = true; rw [h2]; rfl
    clear hv
    go_enter Tryd.func62, Tryd.ntmps62
    go_wp2
    go_ret
    exact ⟨ret_bool HV.out.symm, by go_grown⟩
  · have HV := Lib.hid hv
    obtain ⟨p, q, s⟩ := x
    obtain ⟨p', q', s'⟩ := y
    dsimp only at h1 h2 h3
    subst h1
    subst h2
    have h4 := bytes_ne h3
    clear hv h3
    go_enter Tryd.func62, Tryd.ntmps62
    go_wp2
    go_ret
    exact ⟨ret_bool HV.out.symm, by go_grown⟩
  · have HV := Lib.hid (show decide (x = x) = true by simp)
    obtain ⟨p, q, s⟩ := x
    go_enter Tryd.func62, Tryd.ntmps62
    go_wp2
    go_ret
    exact ⟨ret_bool HV.out.symm, by go_grown⟩
end Go.Proofs.YtcpfjlbicofkeaaDoor
