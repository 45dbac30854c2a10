/- Values that came in as arguments. -/
import Derived.Test.YtcpfjlbicofkeaaDoorLay1
import Derived.Test.YtcpfjlbicofkeaaDoorOpen
import Derived.Deep.SlicePairs
import Derived.ChangeSame
namespace Go.Proofs.YtcpfjlbicofkeaaDoor
open Go.Joins Go.ChangeShapes Go.WideShapes Go.ChangeAt Go.RowKit Go.Deep
set_option linter.unusedVariables false
set_option linter.unusedSimpArgs false

set_option maxRecDepth 100000 in
theorem Va_at {H : Type} {enc : TypeId × Value → H} {W : World} {base : Nat} {sp : Nat → Bool} {held : Bool} {fuel : Nat} {cs : List Value} {y : DataW H × List MemPlace}
    (h : DataW.trod enc Tryd.prog W base sp held fuel 69 cs = some y) : ∃ x : Va, cs = x.cells ∧ x.s.size ≤ maxLen := by
  have ci : Tryd.prog.cellsOf 3 = 1 := by kernel_rfl
  have cg : Tryd.prog.cellsOf 9 = 1 := by kernel_rfl
  obtain ⟨xs, k, hk, hxy, hl, hxl, hf⟩ := DataW.trod_struct Tryd.underlying69 h
  have hcl : cs.length = 3 := hl.trans cellsV
  match xs, hxl, cs, hcl with
  | [y0, y1, y2], _, [v0, v1, v2], _ =>
    have t0 : DataW.trod enc Tryd.prog W base sp held k 3 [v0] = some y0 := by simpa [ci] using hf 0 _ rfl
    have t1 : DataW.trod enc Tryd.prog W base sp held k 3 [v1] = some y1 := by simpa [ci] using hf 1 _ rfl
    have t2 : DataW.trod enc Tryd.prog W base sp held k 9 [v2] = some y2 := by simpa [cg] using hf 2 _ rfl
    obtain ⟨p, hp, _⟩ := DataW.trod_int Tryd.underlying3 t0
    obtain ⟨q, hq, _⟩ := DataW.trod_int Tryd.underlying3 t1
    obtain ⟨s, hs, _, ws⟩ := DataW.trod_string Tryd.underlying9 t2
    injection hp with hp; injection hq with hq; injection hs with hs
    subst hp hq hs
    exact ⟨⟨p, q, s⟩, rfl, ws⟩
end Go.Proofs.YtcpfjlbicofkeaaDoor
