/- The law FnValOk answers true at every input, and leaves it as it was. No conditions; the library's table as its text lays it. -/
import Derived.Test.YtdffjldcdlgedaaDoorDo4
import Derived.Test.YtdffjldcdlgedaaDoorDrawVal
import Derived.Test.YtdffjldcdlgedaaDoorTab
import Derived.Test.YtdffjldcdlgedaaDoorBytes
namespace Go.Proofs.YtdffjldcdlgedaaDoor.fnValOk
open Go.Joins Go.ChangeShapes Go.WideShapes Go.ChangeAt Go.RowKit Go.Deep
set_option linter.unusedVariables false

theorem same_self {k n : Int} {s : ByteArray} (h : validB k n s = true) : valDoV 4 k n s k n s = ⟨1, 1, ⟨#[]⟩⟩ := by
  unfold valDoV doV
  rw [if_pos ⟨⟨by decide, by decide⟩, h, h⟩, if_pos rfl]
  unfold sameB bitV
  simp
theorem none_false {n : Int} {s : ByteArray} (h : validB 0 n s = true) : trueB 0 n s = false := by
  rcases valid_ways h with ⟨_, rfl, he⟩ | ⟨h0, _⟩ | ⟨h0, _⟩
  · unfold trueB truthB
    rw [he]
    simp
  · exact absurd h0 (by decide)
  · exact absurd h0 (by decide)

set_option maxHeartbeats 2000000 in
theorem walk (A : Option Addr) (len cap : Nat) (w : World) (hc0 : Code w w.heap.size A len) (hl : len ≤ maxLen) (hT : Tab w) :
    Calls Tryd.prog 3 #[.slice A len cap] w fun e w' => e = .returned (.bool true) ∧ Below w.heap.size w w' := by
  have HT := Lib.hid hT
  have HC := Lib.hid hc0
  have HL := Lib.hid hl
  unfold maxLen at hl
  clear hT hc0
  by_cases l1 : 1048576 < len
  · go_enter Tryd.func3, Tryd.ntmps3
    go_wp2_with fail
    go_ret
    exact ⟨rfl, Below.refl _ _⟩
  · go_enter Tryd.func3, Tryd.ntmps3
    go_wp2_with fail
    refine (DrawValOk_any A len cap w HC.out HL.out).mono ?_
    rintro e w1 ⟨k, n, s, rfl, ⟨k0, k2, n0, n1, sz⟩, hG1⟩
    have hB := Below.refl (w1.heap.size + 1) (w1.alloc (.cells #[.int .i64 k, .int .i64 n, .string s] 24))
    have HB0 := Lib.hid (show w1.heap.size + 1 ≤ (w1.alloc (.cells #[.int .i64 k, .int .i64 n, .string s] 24)).heap.size by simp)
    have hF : Below w1.heap.size w1 (w1.alloc (.cells #[.int .i64 k, .int .i64 n, .string s] 24)) := by go_grown
    have HT1 := Lib.hid (HT.out.next hG1)
    have HG1 := Lib.hid hG1
    have HSZ := Lib.hid hG1.size
    clear hG1
    have h1 := valid_impl k n s
    have h2 := valOk_spec k n s
    cases hv : validB k n s
    · rw [hv] at h1 h2
      have H1 := Lib.hid h1
      have H2 := Lib.hid h2
      clear h1 h2 hv
      go_wp2_with (first
        | (go_at_call 10; refine (H1.out _).mono ?_; rintro e w' ⟨rfl, hb⟩; replace hB := more (W1 := _) (by go_grown) HB0.out hb; obtain ⟨hc, hf⟩ := bcell hB; clear hb)
        | (go_at_call 11; refine (H2.out _).mono ?_; rintro e w' ⟨rfl, hb⟩; replace hB := more (W1 := _) (by go_grown) HB0.out hb; obtain ⟨hc, hf⟩ := bcell hB; clear hb))
      go_ret
      exact ⟨rfl, HG1.out.trans ((front hF (by omega) hB).mono HSZ.out)⟩
    · have h3 := valTrue_impl k n s
      have h4 := valDo_impl 4 k n s k n s
      rw [same_self hv] at h4
      rw [hv] at h1 h2
      have H1 := Lib.hid h1
      have H2 := Lib.hid h2
      have H4 := Lib.hid h4
      by_cases hk : k = 0
      · subst hk
        rw [none_false hv] at h3
        have H3 := Lib.hid h3
        clear h1 h2 h3 h4 hv
        go_wp2_with (first
          | (go_at_call 10; refine (H1.out _).mono ?_; rintro e w' ⟨rfl, hb⟩; replace hB := more (W1 := _) (by go_grown) HB0.out hb; obtain ⟨hc, hf⟩ := bcell hB; clear hb)
          | (go_at_call 11; refine (H2.out _).mono ?_; rintro e w' ⟨rfl, hb⟩; replace hB := more (W1 := _) (by go_grown) HB0.out hb; obtain ⟨hc, hf⟩ := bcell hB; clear hb)
          | (go_at_call 12; refine (H3.out _).mono ?_; rintro e w' ⟨rfl, hb⟩; replace hB := more (W1 := _) (by go_grown) HB0.out hb; obtain ⟨hc, hf⟩ := bcell hB; clear hb)
          | (go_at_call 13; refine (H4.out _ ?_).mono ?_; (exact HT1.out.next (front (B := w1.heap.size + 1) hF (by omega) (by go_grown))); rintro e w' ⟨rfl, hb⟩; replace hB := more (W1 := _) (by go_grown) HB0.out hb; obtain ⟨hc, hf⟩ := bcell hB; clear hb))
        go_ret
        exact ⟨rfl, HG1.out.trans ((front hF (by omega) hB).mono HSZ.out)⟩
      · have e0 : (k == 0) = false := by simpa using hk
        clear h1 h2 h3 h4 hv hk
        go_wp2_with (first
          | (go_at_call 10; refine (H1.out _).mono ?_; rintro e w' ⟨rfl, hb⟩; replace hB := more (W1 := _) (by go_grown) HB0.out hb; obtain ⟨hc, hf⟩ := bcell hB; clear hb)
          | (go_at_call 11; refine (H2.out _).mono ?_; rintro e w' ⟨rfl, hb⟩; replace hB := more (W1 := _) (by go_grown) HB0.out hb; obtain ⟨hc, hf⟩ := bcell hB; clear hb)
          | (go_at_call 13; refine (H4.out _ ?_).mono ?_; (exact HT1.out.next (front (B := w1.heap.size + 1) hF (by omega) (by go_grown))); rintro e w' ⟨rfl, hb⟩; replace hB := more (W1 := _) (by go_grown) HB0.out hb; obtain ⟨hc, hf⟩ := bcell hB; clear hb))
        go_ret
        exact ⟨rfl, HG1.out.trans ((front hF (by omega) hB).mono HSZ.out)⟩

theorem tab {W : World} (h : laidMetH Tryd.prog Rows.fnValOkRow.laid W) : Tab W :=
  tab_of_laid Rows.fnValOkRow.laid (by kernel_rfl) (by kernel_rfl) h

theorem contract (H : Type) (enc : TypeId × Value → H) (W : World) (base : Nat) (args : Array Value) (ds gs : List (DataW H)) (before : List MemPlace)
    (hval : ∀ (j : Nat) t v, Tryd.f3.params[j]? = some t → args[j]? = some v → Value.okWide Tryd.prog W .any base t v)
    (hW : DataW.Whole enc Tryd.prog Tryd.f3.params.toList Rows.fnValOkSpec.vars false W args.toList ds gs before)
    (hL : laidMetH Tryd.prog Rows.fnValOkRow.laid W) :
    Calls Tryd.prog 3 args W fun e W' => ∃ v, e = .returned v ∧ Rows.fnValOkSpec.post enc Tryd.prog Tryd.f3 false true false false W args v W' := by
  have hW' := hW
  obtain ⟨p, q, hA0, hV, rfl, hfz, hnd⟩ := hW
  have hA : DataW.TrodAll enc Tryd.prog W 0 (fun _ => true) true Tryd.f3.params.toList args.toList ds p := hA0
  rw [Tryd.params3] at hA hval
  obtain ⟨v0, vs0, d0, ds0, p0, q0, hargs, rfl, rfl, h0, r0⟩ := trodAll_cons hA
  obtain ⟨rfl, rfl, rfl⟩ := trodAll_nil r0
  obtain rfl : args = #[v0] := by cases args; simp_all
  obtain ⟨rfl, rfl⟩ := trodVars_none hV
  obtain ⟨A0, l0, c0, rfl, hs0, hc0⟩ := open_bytes (hval 0 _ v0 rfl rfl) h0 (fun x hx => by simpa using hW'.lt x (by simp [hx]))
  exact (walk (hT := tab hL) A0 l0 c0 W hc0 hs0).mono fun e W' ⟨he, hB⟩ => ⟨_, he, law_post rfl rfl hW' laidOut (of_decide_eq_true (by kernel_rfl)) rfl Tryd.underlying4 hB⟩

/-- A world for the witness: the settled one, with the library's tables as their text lays them. -/
noncomputable def laidWorld (os : Os) : World :=
  { World.holding Tryd.prog os ⟨#[], #[], []⟩ with heap := ((((World.holding Tryd.prog os ⟨#[], #[], []⟩).heap).modify 1 (layCells (datCells Rows.laid_math_bits_deBruijn32tab))).modify 2 (layCells (datCells Rows.laid_math_bits_deBruijn64tab))).modify 0 (layCells (datCells Rows.laid_internal_strconv_uint64pow10)) }
theorem laid_met (os : Os) : laidMet Tryd.prog Rows.fnValOkRow.laid ((laidWorld os).forCall (fun _ _ => 0) ⟨#[], #[.slice none 0 0], []⟩).memory :=
  laidMet_of_run' 8 (by kernel_rfl) (by kernel_rfl)
theorem reads (os : Os) {H : Type} (enc : TypeId × Value → H) : ∃ places, DataW.whole enc Tryd.prog ((laidWorld os).forCall (fun _ _ => 0) ⟨#[], #[.slice none 0 0], []⟩).memory Tryd.f3.params.toList Rows.fnValOkSpec.vars false (#[.slice none 0 0] : Array Value).toList 8 = some ([.nil], [], places) :=
  ⟨[], by kernel_rfl⟩

set_option maxRecDepth 100000 in
theorem lifted (os : Os) (started : os.Started) (H : Type) (enc : TypeId × Value → H) (F : Stop.Interp) :
    ReturnsInHanded {} Tryd.checked os 3 .any ((OpenSpec.ofChange Rows.fnValOkSpec).preRow enc Tryd.prog Tryd.f3 Rows.fnValOkRow.domain false Rows.fnValOkRow.laid) (((OpenSpec.ofChange Rows.fnValOkSpec).at F).post enc Tryd.prog Tryd.f3 false true false false) := by
  obtain ⟨places, hx⟩ := reads os enc
  refine returnsInHanded_of_row (C := Tryd.checked) (s := OpenSpec.ofChange Rows.fnValOkSpec) own started (by kernel_rfl) Tryd.func3
    (witness_row_at (enc := enc) (C := Tryd.checked) false (laidWorld os) #[.slice none 0 0] rfl (by kernel_rfl) (by kernel_rfl) (by kernel_rfl)
      (OpenSpec.preRow_of_cond 8 hx (by kernel_rfl) (fun k hk => by cases hk) (by kernel_rfl) (laid_met os))) ?_
  intro W base args ds gs before hval hW _ _ _ hL _ _
  exact contract H enc W base args ds gs before hval hW hL

theorem said : Rows.FnValOkSaid :=
  OpenClaim.holds_of_cond 3 Tryd.f3 rfl rfl rfl rfl rfl rfl rfl ⟨rfl, rfl, rfl, rfl, rfl⟩ rfl rfl rfl rfl rfl (by kernel_rfl) Tryd.func3 (by kernel_rfl)
    (of_decide_eq_true (by kernel_rfl)) (by unfold Func.isWrapper; first | (rw [if_pos (by decide +kernel)]; kernel_rfl) | (rw [if_neg (by decide +kernel)]; exact ⟨rfl, rfl⟩))
    (fun os started H enc _ F => by rw [OpenClaim.pre_eq_preRow]; exact lifted os started H enc F)

/-- No parameter wants a stand-in; the program's own looks are off. -/
theorem plain (f : FuncId) (fn : Func) (hf : Tryd.pinned.checked.prog.funcNamed Rows.fnValOkRow.func = some f) (hfn : Tryd.pinned.checked.prog.funcs[f]? = some fn) :
    false = Tryd.pinned.checked.prog.looks [] ∧ ∀ (j : Nat) t, fn.params[j]? = some t → Tryd.pinned.checked.prog.wantsStandIn t = false := by
  obtain rfl : f = 3 := Option.some.inj ((show Tryd.prog.funcNamed Rows.fnValOkRow.func = some 3 by kernel_rfl).symm.trans hf) |>.symm
  obtain rfl : fn = Tryd.f3 := (Option.some.inj (Tryd.func3.symm.trans hfn)).symm
  refine ⟨by kernel_rfl, fun j t ht => ?_⟩
  have hall : Tryd.f3.params.toList.all (fun t => !Tryd.prog.wantsStandIn t) = true := by kernel_rfl
  rw [List.all_eq_true] at hall
  have hw : Tryd.prog.wantsStandIn t = false := by simpa using hall t (Array.mem_toList_iff.2 (Array.mem_of_getElem? ht))
  exact hw

theorem proved : Rows.FnValOkCardSaid :=
  Claim7.holds_tied_plain_at .later [] _ _ _ _ said (fun _ h => by cases h) (by kernel_rfl) (fun _ h => by cases h) fnValOk_row_tie rfl ⟨rfl, rfl⟩ (by kernel_rfl) rfl plain (by kernel_rfl)
end Go.Proofs.YtdffjldcdlgedaaDoor.fnValOk
