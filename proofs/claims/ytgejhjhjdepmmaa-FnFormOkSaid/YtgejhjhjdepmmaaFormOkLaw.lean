/- The law FnFormOk answers true at every code, and leaves it as it was. No conditions. -/
import Derived.Test.YtgejhjhjdepmmaaForm4
import Derived.Test.YtgejhjhjdepmmaaDrawForm3
import Derived.Test.YtgejhjhjdepmmaaBytes
namespace Go.Proofs.Ytgejhjhjdepmmaa.fnFormOk
open Go.Joins Go.ChangeShapes Go.WideShapes Go.ChangeAt Go.RowKit Go.Deep
set_option linter.unusedVariables false
set_option linter.unusedSimpArgs false

set_option maxHeartbeats 2000000 in
theorem walk (A : Option Addr) (len cap : Nat) (w : World) (hc : Code w w.heap.size A len) (hl : len ≤ maxLen) :
    Calls Try.prog 3 #[.slice A len cap] w fun e w' => e = .returned (.bool true) ∧ Below w.heap.size w w' := by
  have HC := Lib.hid hc
  have HLN := Lib.hid hl
  unfold maxLen at hl
  clear hc
  by_cases hbig : (1048576 : Int) < len
  · go_enter Try.func3, Try.ntmps3
    go_wp2_with fail
    go_ret
    exact ⟨rfl, by go_grown⟩
  · have hd : decide ((1048576 : Int) < len) = false := by simp; omega
    go_enter Try.func3, Try.ntmps3
    go_wp2_with fail
    refine (DrawFormOk_any A len cap w HC.out HLN.out).mono ?_
    rintro e w1 ⟨A', c', xs, p, st, t, rfl, hL, h10, hsame, ⟨p0, p1, s0, s1, t0, t1⟩, hB⟩
    have HL := Lib.hid hL
    have HB := Lib.hid hB
    have hxl : xs.length ≤ maxLen := by unfold maxLen; omega
    have h1 := fun w h => iform_any A' c' xs p st t w h hxl
    have h2 := fun w h => sform_any A' c' xs p st t w h hxl
    have h3 := fun w h => iform_any A' c' xs (p + 1) (st + 1) (t + 1) w h hxl
    rw [hsame] at h1
    clear hL hB hxl
    cases hv : (rangeB p st t && formB opS xs p st t)
    · rw [hv] at h1 h2
      have H1 := Lib.hid h1
      have H2 := Lib.hid h2
      clear h1 h2 h3 hv hsame
      go_wp2_with (first
        | (go_at_call 9; ((with_reducible refine (H1.out _ HL.out).mono ?_); rintro e w' ⟨rfl, hb⟩); have hL := Lib.hid (HL.out.below hb); replace HL := hL; replace HB := Lib.hid (HB.out.trans (hb.mono HB.out.size)); clear hb hL)
        | (go_at_call 10; ((with_reducible refine (H2.out _ HL.out).mono ?_); rintro e w' ⟨rfl, hb⟩); have hL := Lib.hid (HL.out.below hb); replace HL := hL; replace HB := Lib.hid (HB.out.trans (hb.mono HB.out.size)); clear hb hL))
      go_ret
      exact ⟨rfl, HB.out⟩
    · rw [hv] at h1 h2
      simp only [Bool.and_eq_true] at hv
      obtain ⟨hr, hf⟩ := hv
      have hpos := formB_pos hf
      have hfi : formB opI xs (p + 1) (st + 1) (t + 1) = true := formB_mono (hsame.trans hf)
      have hpz : (0 : Int) < xs.length := by omega
      unfold rangeB at hr
      have hr' := of_decide_eq_true hr
      obtain ⟨⟨p2, p3⟩, ⟨s2, s3⟩, t2, t3⟩ := hr'
      have H1 := Lib.hid h1
      have H2 := Lib.hid h2
      rw [hfi, Bool.and_true] at h3
      clear h1 h2 hr hf hfi hsame
      rcases (by omega : 3 ≤ p ∨ (p < 3 ∧ 3 ≤ st) ∨ (p < 3 ∧ st < 3 ∧ 4 ≤ t) ∨ (p < 3 ∧ st < 3 ∧ t < 4)) with q | ⟨q1, q2⟩ | ⟨q1, q2, q3⟩ | ⟨q1, q2, q3⟩
      case inr.inr.inr =>
        have hr2 : rangeB (p + 1) (st + 1) (t + 1) = true := by unfold rangeB; apply decide_eq_true; omega
        rw [hr2] at h3
        have H3 := Lib.hid h3
        obtain ⟨n, hn⟩ : ∃ n, xs.length = n := ⟨_, rfl⟩
        rw [hn] at hpos hpz H1 H2 H3 h10 ⊢
        clear hr2 h3 hn
        go_wp2_with (first
          | (go_at_call 9; ((with_reducible refine (H1.out _ HL.out).mono ?_); rintro e w' ⟨rfl, hb⟩); have hL := Lib.hid (HL.out.below hb); replace HL := hL; replace HB := Lib.hid (HB.out.trans (hb.mono HB.out.size)); clear hb hL)
          | (go_at_call 10; ((with_reducible refine (H2.out _ HL.out).mono ?_); rintro e w' ⟨rfl, hb⟩); have hL := Lib.hid (HL.out.below hb); replace HL := hL; replace HB := Lib.hid (HB.out.trans (hb.mono HB.out.size)); clear hb hL)
          | (go_at_call 9; ((with_reducible refine (H3.out _ HL.out).mono ?_); rintro e w' ⟨rfl, hb⟩); have hL := Lib.hid (HL.out.below hb); replace HL := hL; replace HB := Lib.hid (HB.out.trans (hb.mono HB.out.size)); clear hb hL))
        go_ret
        exact ⟨rfl, HB.out⟩
      all_goals
        clear h3
        go_wp2_with (first
          | (go_at_call 9; ((with_reducible refine (H1.out _ HL.out).mono ?_); rintro e w' ⟨rfl, hb⟩); have hL := Lib.hid (HL.out.below hb); replace HL := hL; replace HB := Lib.hid (HB.out.trans (hb.mono HB.out.size)); clear hb hL)
          | (go_at_call 10; ((with_reducible refine (H2.out _ HL.out).mono ?_); rintro e w' ⟨rfl, hb⟩); have hL := Lib.hid (HL.out.below hb); replace HL := hL; replace HB := Lib.hid (HB.out.trans (hb.mono HB.out.size)); clear hb hL))
        go_ret
        exact ⟨rfl, HB.out⟩

set_option maxRecDepth 100000 in
theorem contract (H : Type) (enc : TypeId × Value → H) (W : World) (base : Nat) (args : Array Value) (ds gs : List (DataW H)) (before : List MemPlace)
    (hval : ∀ (j : Nat) t v, Try.f3.params[j]? = some t → args[j]? = some v → Value.okWide Try.prog W .any base t v)
    (hW : DataW.Whole enc Try.prog Try.f3.params.toList Rows.fnFormOkSpec.vars false W args.toList ds gs before) :
    Calls Try.prog 3 args W fun e W' => ∃ v, e = .returned v ∧ Rows.fnFormOkSpec.post enc Try.prog Try.f3 false true false false W args v W' := by
  have hW' := hW
  obtain ⟨p, q, hA0, hV, rfl, hfz, hnd⟩ := hW
  have hA : DataW.TrodAll enc Try.prog W 0 (fun _ => true) true Try.f3.params.toList args.toList ds p := hA0
  rw [Try.params3] at hA hval
  obtain ⟨v0, vs0, d0, ds0, p0, q0, hargs, rfl, rfl, h0, r0⟩ := trodAll_cons hA
  obtain ⟨rfl, rfl, rfl⟩ := trodAll_nil r0
  obtain rfl : args = #[v0] := by cases args; simp_all
  obtain ⟨rfl, rfl⟩ := trodVars_none hV
  obtain ⟨A0, l0, c0, rfl, hs0, hc0⟩ := open_bytes (hval 0 _ v0 rfl rfl) h0 (fun x hx => by simpa using hW'.lt x (by simp [hx]))
  exact (walk A0 l0 c0 W hc0 hs0).mono fun e W' ⟨he, hB⟩ => ⟨_, he, law_post rfl rfl hW' laidOut (of_decide_eq_true (by kernel_rfl)) rfl Try.underlying4 hB⟩

set_option maxRecDepth 100000 in
theorem lifted (os : Os) (started : os.Started) (H : Type) (enc : TypeId × Value → H) :
    ReturnsInHanded {} Try.checked os 3 .any (Rows.fnFormOkSpec.pre6 enc Try.prog Try.f3 Rows.fnFormOkRow.domain false) (Rows.fnFormOkSpec.post enc Try.prog Try.f3 false true false false) := by
  refine returnsInHanded_of_change (C := Try.checked) own started (by kernel_rfl) Try.func3
    (ChangeSpec.witness6 (enc := enc) (C := Try.checked) false ⟨#[], #[.slice none 0 0], []⟩ 8 (by kernel_rfl) (by kernel_rfl) (by kernel_rfl) (by kernel_rfl)) ?_
  intro W base args ds gs before hval hW _ _
  exact contract H enc W base args ds gs before hval hW

set_option maxRecDepth 100000 in
theorem proved : Rows.FnFormOkSaid :=
  OpenClaim.holds_of_wide 3 Try.f3 rfl rfl rfl rfl rfl rfl rfl ⟨rfl, rfl, rfl, rfl, rfl⟩ rfl rfl rfl rfl rfl (by kernel_rfl) Try.func3 (by kernel_rfl)
    (of_decide_eq_true (by kernel_rfl)) (by unfold Func.isWrapper; first | (rw [if_pos (by decide +kernel)]; kernel_rfl) | (rw [if_neg (by decide +kernel)]; exact ⟨rfl, rfl⟩))
    (fun os started H enc _ => lifted os started H enc)
end Go.Proofs.Ytgejhjhjdepmmaa.fnFormOk
