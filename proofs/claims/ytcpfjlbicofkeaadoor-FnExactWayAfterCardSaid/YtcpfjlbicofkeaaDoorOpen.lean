/- A value that came in as an argument, and the program's own settings. -/
import Derived.Test.YtcpfjlbicofkeaaDoorBase
import Derived.Test.YtcpfjlbicofkeaaDoorValid
namespace Go.Proofs.YtcpfjlbicofkeaaDoor
open Go.Joins Go.ChangeShapes Go.WideShapes Go.ChangeAt Go.RowKit Go.Deep
set_option linter.unusedVariables false

theorem own : ownKnob Tryd.prog.godebug = none := by kernel_rfl
theorem laidOut : laidOutB Tryd.prog = true := by kernel_rfl
theorem cellsV : Tryd.prog.cellsOf 69 = 3 := by kernel_rfl

set_option maxRecDepth 100000 in
/-- A value that came in. -/
theorem open_value {H : Type} {enc : TypeId × Value → H} {W : World} {base b0 : Nat} {sp : Nat → Bool} {held : Bool} {r : Reach} {v : Value} {d : DataW H} {p : List MemPlace}
    (hv : Value.okWide Tryd.prog W r b0 69 v) (h : DataW.Trod enc Tryd.prog W base sp held 69 v d p) :
    ∃ (k n : Int) (s : ByteArray), v = .agg #[.int .i64 k, .int .i64 n, .string s] ∧ s.size ≤ maxLen ∧ (Lit.int .i64 k).wf = true ∧ (Lit.int .i64 n).wf = true ∧ d = .agg [.lit (.int .i64 k), .lit (.int .i64 n), .lit (.string s.data.toList)] := by
  obtain ⟨v0, v1, v2, y0, y1, y2, m, rfl, hd, hp, h0, h1, h2⟩ := open_agg3 Tryd.underlying69 (by kernel_rfl) cellsV hv h
  obtain ⟨k, hk, hy0, wk⟩ := DataW.trod_int Tryd.underlying3 h0
  obtain ⟨n, hn, hy1, wn⟩ := DataW.trod_int Tryd.underlying3 h1
  obtain ⟨s, hs, hy2, ws⟩ := DataW.trod_string Tryd.underlying9 h2
  injection hk with hk; injection hn with hn; injection hs with hs
  subst hk hn hs hy0 hy1 hy2
  exact ⟨k, n, s, rfl, ws, wk, wn, hd⟩

end Go.Proofs.YtcpfjlbicofkeaaDoor
