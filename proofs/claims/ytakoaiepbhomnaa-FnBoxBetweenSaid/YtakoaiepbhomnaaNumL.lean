/- Boxes that came in; how the laws copy and compare them. -/
import Derived.Test.YtakoaiepbhomnaaNumM
import Derived.OpenShut
namespace Go.Proofs.Ytakoaiepbhomnaa
open Go.Joins Go.ChangeShapes Go.WideShapes Go.ChangeAt Go.RowKit Go.Deep
set_option linter.unusedVariables false
set_option linter.unusedSimpArgs false

theorem cellsBx : Try.prog.cellsOf 23 = 4 := by kernel_rfl
set_option maxRecDepth 100000 in
theorem open_box {H : Type} {enc : TypeId × Value → H} {W : World} {base b0 : Nat} {sp : Nat → Bool} {held : Bool} {r : Reach} {v : Value} {d : DataW H} {p : List MemPlace}
    (hv : Value.okWide Try.prog W r b0 23 v) (h : DataW.Trod enc Try.prog W base sp held 23 v d p) :
    ∃ (l t w_ h_ : Int), v = .agg #[.int .i64 l, .int .i64 t, .int .i64 w_, .int .i64 h_] := by
  obtain ⟨v0, v1, v2, v3, y0, y1, y2, y3, m, rfl, hd, hp, h0, h1, h2, h3⟩ := open_agg4 Try.underlying23 (by kernel_rfl) cellsBx hv h
  obtain ⟨k, hk, hy0, wk⟩ := DataW.trod_int Try.underlying3 h0
  obtain ⟨n, hn, hy1, wn⟩ := DataW.trod_int Try.underlying3 h1
  obtain ⟨s, hs, hy2, ws⟩ := DataW.trod_int Try.underlying3 h2
  obtain ⟨q, hq, hy3, wq⟩ := DataW.trod_int Try.underlying3 h3
  injection hk with hk; injection hn with hn; injection hs with hs; injection hq with hq
  subst hk hn hs hq
  exact ⟨k, n, s, q, rfl⟩
theorem meetV_agg (al at_ aw ah bl bt bw bh : Int) : ∃ v0 v1 v2 v3 : Int, meetV al at_ aw ah bl bt bw bh = .agg #[.int .i64 v0, .int .i64 v1, .int .i64 v2, .int .i64 v3] := ⟨_, _, _, _, rfl⟩
theorem bmV_agg (al at_ aw ah bl bt bw bh : Int) : ∃ v0 v1 v2 v3 : Int, bmV al at_ aw ah bl bt bw bh = .agg #[.int .i64 v0, .int .i64 v1, .int .i64 v2, .int .i64 v3] := by
  unfold bmV
  split
  · exact meetV_agg ..
  · exact ⟨_, _, _, _, rfl⟩
set_option maxHeartbeats 400000 in
theorem toBox_any (l t w_ h_ : Int) (w : World) :
    Calls Try.prog 12 #[.agg #[.int .i64 l, .int .i64 t, .int .i64 w_, .int .i64 h_]] w fun e w' => e = .returned (.agg #[.int .i64 l, .int .i64 t, .int .i64 w_, .int .i64 h_]) ∧ Below w.heap.size w w' := by
  go_enter Try.func12, Try.ntmps12
  go_wp2_with fail
  exact bodyPost_ret (v := .agg #[.int .i64 l, .int .i64 t, .int .i64 w_, .int .i64 h_]) (by simp [results, Try.results12, go_sem]) rfl ⟨rfl, by go_grown⟩
set_option maxHeartbeats 400000 in
theorem eqBox_same (l t w_ h_ : Int) (w : World) :
    Calls Try.prog 14 #[.agg #[.int .i64 l, .int .i64 t, .int .i64 w_, .int .i64 h_], .agg #[.int .i64 l, .int .i64 t, .int .i64 w_, .int .i64 h_]] w fun e w' => e = .returned (.bool true) ∧ Below w.heap.size w w' := by
  go_enter Try.func14, Try.ntmps14
  go_wp2_with fail
  go_ret
  exact ⟨rfl, by go_grown⟩
end Go.Proofs.Ytakoaiepbhomnaa
