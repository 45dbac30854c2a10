/- The law FnExactValShow answers true at every value, and leaves it as it was. No conditions; the library's table as its text lays it. -/
import Derived.Test.YtdffjldcdlgedaaDoorTab
namespace Go.Proofs.YtdffjldcdlgedaaDoor.fnExactValShow
open Go.Joins Go.ChangeShapes Go.WideShapes Go.ChangeAt Go.RowKit Go.Deep
set_option linter.unusedVariables false

set_option maxHeartbeats 400000 in
theorem walk (k n : Int) (s : ByteArray) (w : World) (hs : s.size ≤ maxLen) (hT : Tab w) :
    Calls Tryd.prog 7 #[.agg #[.int .i64 k, .int .i64 n, .string s]] w fun e w' => e = .returned (.bool true) ∧ Below w.heap.size w w' := by
  have HT := Lib.hid hT
  clear hT
  have hz := szValue_any k n 1048576 s
  have hB := Below.refl (w.heap.size + 1) (w.alloc (.cells #[.int .i64 k, .int .i64 n, .string s] 32))
  have HB0 := Lib.hid (show w.heap.size + 1 ≤ (w.alloc (.cells #[.int .i64 k, .int .i64 n, .string s] 32)).heap.size by simp)
  have hF : Below w.heap.size w (w.alloc (.cells #[.int .i64 k, .int .i64 n, .string s] 32)) := by go_grown
  by_cases hl : (1048576 : Int) < s.size
  · simp only [if_pos hl] at hz
    have HZ := Lib.hid hz
    clear hz
    go_enter Tryd.func7, Tryd.ntmps7
    go_wp2_with (go_at_call 21; refine (HZ.out _ (by omega) (by omega) hs).mono ?_; rintro e w' ⟨rfl, hb⟩; replace hB := more hB HB0.out hb; obtain ⟨hc, hf⟩ := bcell hB; clear hb)
    go_ret
    exact ⟨rfl, front hF (by omega) hB⟩
  · simp only [if_neg hl] at hz
    have HZ := Lib.hid hz
    clear hz
    generalize hx : shown k n s = x
    have H1 := Lib.hid (hx ▸ valShow_spec k n s)
    have H2 := Lib.hid (hx ▸ valShow_impl k n s)
    clear hx
    go_enter Tryd.func7, Tryd.ntmps7
    go_wp2_with (first
      | (go_at_call 21; refine (HZ.out _ (by omega) (by omega) hs).mono ?_; rintro e w' ⟨rfl, hb⟩; replace hB := more hB HB0.out hb; obtain ⟨hc, hf⟩ := bcell hB; clear hb)
      | (go_at_call 22; refine (toValue_any _ _ _ _).mono ?_; rintro e w' ⟨rfl, hb⟩; replace hB := more hB HB0.out hb; obtain ⟨hc, hf⟩ := bcell hB; clear hb)
      | (go_at_call 16; refine (H1.out _).mono ?_; rintro e w' ⟨rfl, hb⟩; replace hB := more hB HB0.out hb; obtain ⟨hc, hf⟩ := bcell hB; clear hb)
      | (go_at_call 15; refine (H2.out _ (HT.out.next (front hF (by omega) hB))).mono ?_; rintro e w' ⟨rfl, hb⟩; replace hB := more hB HB0.out hb; obtain ⟨hc, hf⟩ := bcell hB; clear hb))
    go_ret
    exact ⟨rfl, front hF (by omega) hB⟩

theorem tab {W : World} (h : laidMetH Tryd.prog Rows.fnExactValShowRow.laid W) : Tab W :=
  tab_of_laid Rows.fnExactValShowRow.laid (by kernel_rfl) (by kernel_rfl) h

theorem contract (H : Type) (enc : TypeId × Value → H) (W : World) (base : Nat) (args : Array Value) (ds gs : List (DataW H)) (before : List MemPlace)
    (hval : ∀ (j : Nat) t v, Tryd.f7.params[j]? = some t → args[j]? = some v → Value.okWide Tryd.prog W .any base t v)
    (hW : DataW.Whole enc Tryd.prog Tryd.f7.params.toList Rows.fnExactValShowSpec.vars false W args.toList ds gs before)
    (hL : laidMetH Tryd.prog Rows.fnExactValShowRow.laid W) :
    Calls Tryd.prog 7 args W fun e W' => ∃ v, e = .returned v ∧ Rows.fnExactValShowSpec.post enc Tryd.prog Tryd.f7 false true false false W args v W' := by
  have hW' := hW
  obtain ⟨p, q, hA0, hV, rfl, hfz, hnd⟩ := hW
  have hA : DataW.TrodAll enc Tryd.prog W 0 (fun _ => true) true Tryd.f7.params.toList args.toList ds p := hA0
  rw [Tryd.params7] at hA hval
  obtain ⟨v0, vs0, d0, ds0, p0, q0, hargs, rfl, rfl, h0, r0⟩ := trodAll_cons hA
  obtain ⟨rfl, rfl, rfl⟩ := trodAll_nil r0
  obtain rfl : args = #[v0] := by cases args; simp_all
  obtain ⟨rfl, rfl⟩ := trodVars_none hV
  obtain ⟨k0, n0, s0, rfl, hs0, wk0, wn0, hd0⟩ := open_value (hval 0 _ v0 rfl rfl) h0
  exact (walk (hT := tab hL) k0 n0 s0 W hs0).mono fun e W' ⟨he, hB⟩ => ⟨_, he, law_post rfl rfl hW' laidOut (of_decide_eq_true (by kernel_rfl)) rfl Tryd.underlying4 hB⟩

/-- A world for the witness: the settled one, with the library's tables as their text lays them. -/
noncomputable def laidWorld (os : Os) : World :=
  { World.holding Tryd.prog os ⟨#[], #[], []⟩ with heap := ((((World.holding Tryd.prog os ⟨#[], #[], []⟩).heap).modify 1 (layCells (datCells Rows.laid_math_bits_deBruijn32tab))).modify 2 (layCells (datCells Rows.laid_math_bits_deBruijn64tab))).modify 0 (layCells (datCells Rows.laid_internal_strconv_uint64pow10)) }
theorem laid_met (os : Os) : laidMet Tryd.prog Rows.fnExactValShowRow.laid ((laidWorld os).forCall (fun _ _ => 0) ⟨#[], #[.agg #[.int .i64 0, .int .i64 0, .string ⟨#[]⟩]], []⟩).memory :=
  laidMet_of_run' 8 (by kernel_rfl) (by kernel_rfl)
theorem reads (os : Os) {H : Type} (enc : TypeId × Value → H) : ∃ places, DataW.whole enc Tryd.prog ((laidWorld os).forCall (fun _ _ => 0) ⟨#[], #[.agg #[.int .i64 0, .int .i64 0, .string ⟨#[]⟩]], []⟩).memory Tryd.f7.params.toList Rows.fnExactValShowSpec.vars false (#[.agg #[.int .i64 0, .int .i64 0, .string ⟨#[]⟩]] : Array Value).toList 8 = some ([.agg [.lit (.int .i64 0), .lit (.int .i64 0), .lit (.string [])]], [], places) :=
  ⟨[], by kernel_rfl⟩

set_option maxRecDepth 100000 in
theorem lifted (os : Os) (started : os.Started) (H : Type) (enc : TypeId × Value → H) (F : Stop.Interp) :
    ReturnsInHanded {} Tryd.checked os 7 .any ((OpenSpec.ofChange Rows.fnExactValShowSpec).preRow enc Tryd.prog Tryd.f7 Rows.fnExactValShowRow.domain false Rows.fnExactValShowRow.laid) (((OpenSpec.ofChange Rows.fnExactValShowSpec).at F).post enc Tryd.prog Tryd.f7 false true false false) := by
  obtain ⟨places, hx⟩ := reads os enc
  refine returnsInHanded_of_row (C := Tryd.checked) (s := OpenSpec.ofChange Rows.fnExactValShowSpec) own started (by kernel_rfl) Tryd.func7
    (witness_row_at (enc := enc) (C := Tryd.checked) false (laidWorld os) #[.agg #[.int .i64 0, .int .i64 0, .string ⟨#[]⟩]] rfl (by kernel_rfl) (by kernel_rfl) (by kernel_rfl)
      (OpenSpec.preRow_of_cond 8 hx (by kernel_rfl) (fun k hk => by cases hk) (by kernel_rfl) (laid_met os))) ?_
  intro W base args ds gs before hval hW _ _ _ hL _ _
  exact contract H enc W base args ds gs before hval hW hL

theorem said : Rows.FnExactValShowSaid :=
  OpenClaim.holds_of_cond 7 Tryd.f7 rfl rfl rfl rfl rfl rfl rfl ⟨rfl, rfl, rfl, rfl, rfl⟩ rfl rfl rfl rfl rfl (by kernel_rfl) Tryd.func7 (by kernel_rfl)
    (of_decide_eq_true (by kernel_rfl)) (by unfold Func.isWrapper; first | (rw [if_pos (by decide +kernel)]; kernel_rfl) | (rw [if_neg (by decide +kernel)]; exact ⟨rfl, rfl⟩))
    (fun os started H enc _ F => by rw [OpenClaim.pre_eq_preRow]; exact lifted os started H enc F)

/-- No parameter wants a stand-in; the program's own looks are off. -/
theorem plain (f : FuncId) (fn : Func) (hf : Tryd.pinned.checked.prog.funcNamed Rows.fnExactValShowRow.func = some f) (hfn : Tryd.pinned.checked.prog.funcs[f]? = some fn) :
    false = Tryd.pinned.checked.prog.looks [] ∧ ∀ (j : Nat) t, fn.params[j]? = some t → Tryd.pinned.checked.prog.wantsStandIn t = false := by
  obtain rfl : f = 7 := Option.some.inj ((show Tryd.prog.funcNamed Rows.fnExactValShowRow.func = some 7 by kernel_rfl).symm.trans hf) |>.symm
  obtain rfl : fn = Tryd.f7 := (Option.some.inj (Tryd.func7.symm.trans hfn)).symm
  refine ⟨by kernel_rfl, fun j t ht => ?_⟩
  have hall : Tryd.f7.params.toList.all (fun t => !Tryd.prog.wantsStandIn t) = true := by kernel_rfl
  rw [List.all_eq_true] at hall
  have hw : Tryd.prog.wantsStandIn t = false := by simpa using hall t (Array.mem_toList_iff.2 (Array.mem_of_getElem? ht))
  exact hw

theorem proved : Rows.FnExactValShowCardSaid :=
  Claim7.holds_tied_plain_at .later [] _ _ _ _ said (fun _ h => by cases h) (by kernel_rfl) (fun _ h => by cases h) fnExactValShow_row_tie rfl ⟨rfl, rfl⟩ (by kernel_rfl) rfl plain (by kernel_rfl)
end Go.Proofs.YtdffjldcdlgedaaDoor.fnExactValShow
