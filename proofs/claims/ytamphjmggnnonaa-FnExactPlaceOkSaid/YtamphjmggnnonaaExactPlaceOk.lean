/- The law FnExactPlaceOk answers true at every place, and leaves it as it was. No conditions. -/
import Derived.Test.YtamphjmggnnonaaPlc4
namespace Go.Proofs.Ytamphjmggnnonaa.fnExactPlaceOk
open Go.Joins Go.ChangeShapes Go.WideShapes Go.ChangeAt Go.RowKit Go.Deep
set_option linter.unusedVariables false
set_option linter.unusedSimpArgs false

set_option maxHeartbeats 1000000 in
theorem walk (A : Option Addr) (c : Nat) (xs : List Sl) (w : World) (hs : xs.length ≤ maxLen) (hx : SlL w A xs) :
    Calls Try.prog 3 #[.slice A xs.length c] w fun e w' => e = .returned (.bool true) ∧ Below w.heap.size w w' := by
  have hz := szSlots_any A xs.length c 1048576
  have hm : xs.length ≤ maxLen := hs
  unfold maxLen at hm
  by_cases hl : (1048576 : Int) < xs.length
  · simp only [if_pos hl] at hz
    have HZ := Lib.hid hz
    clear hz
    go_enter Try.func3, Try.ntmps3
    go_wp2_with (go_at_call 17; ((with_reducible refine (HZ.out _ (by omega) (by omega) hs).mono ?_); rintro e w' ⟨rfl, rfl⟩))
    go_ret
    exact ⟨rfl, Below.refl _ _⟩
  · simp only [if_neg hl] at hz
    have HZ := Lib.hid hz
    have HX := Lib.hid hx
    have HS := Lib.hid hs
    have K1 := Lib.hid (toSlots_any A c xs)
    have k2 := fun A' c' w h => splace_any A' c' xs w h hs
    have k3 := fun A' c' w h => iplace_any A' c' xs w h hs
    have K4 := Lib.hid (fun A' A'' c' c'' w h h' => eqSlots_any A' A'' c' c'' xs xs w h h' hs hs)
    have HE := Lib.hid (eqSl_refl xs)
    have hl2 : xs.length ≤ 1048576 := by omega
    obtain ⟨n, hn⟩ : ∃ n, xs.length = n := ⟨_, rfl⟩
    have HL2 := Lib.hid hl2
    have hn3 : (n : Int) ≤ 1048576 := by omega
    rw [hn] at k2 k3 hm HZ K1 K4 HS HL2 ⊢
    cases hv : placeB xs
    all_goals
      rw [hv] at k2 k3
      have K2 := Lib.hid k2
      have K3 := Lib.hid k3
      clear hz hx hs hl hn hl2 k2 k3 hv
      go_enter Try.func3, Try.ntmps3
      go_wp2_with (go_at_call 17; ((with_reducible refine (HZ.out _ (by omega) (by omega) HS.out).mono ?_); rintro e w' ⟨rfl, rfl⟩))
      refine (K1.out _ HX.out HL2.out).mono ?_
      rintro e w1 ⟨rfl, ho1, hb1⟩
      have HO1 := Lib.hid (Lie.of_own (c := Sl.cells) (fun _ => rfl) ho1)
      have HB1 := Lib.hid hb1
      clear ho1 hb1
      go_wp2_with fail
      refine (K2.out _ _ _ HO1.out).mono ?_
      rintro e w2 ⟨rfl, hb2⟩
      have HB2 := Lib.hid (more HB1.out (Nat.le_refl _) hb2)
      clear hb2
      go_wp2_with fail
      refine (K1.out _ (HX.out.below HB2.out) HL2.out).mono ?_
      rintro e w3 ⟨rfl, ho3, hb3⟩
      have HO3 := Lib.hid (Lie.of_own (c := Sl.cells) (fun _ => rfl) ho3)
      have HB3 := Lib.hid (more HB2.out (Nat.le_refl _) hb3)
      clear ho3 hb3
      go_wp2_with fail
      refine (K3.out _ _ _ HO3.out).mono ?_
      rintro e w4 ⟨rfl, hb4⟩
      have HB4 := Lib.hid (more HB3.out (Nat.le_refl _) hb4)
      have HO4 := Lib.hid (HO3.out.below hb4)
      clear hb4
      go_wp2_with fail
      refine (K1.out _ (HX.out.below HB4.out) HL2.out).mono ?_
      rintro e w5 ⟨rfl, ho5, hb5⟩
      have HO5 := Lib.hid (Lie.of_own (c := Sl.cells) (fun _ => rfl) ho5)
      have HO6 := Lib.hid (HO4.out.below hb5)
      have HB5 := Lib.hid (more HB4.out (Nat.le_refl _) hb5)
      clear ho5 hb5
      go_wp2_with fail
      refine (K4.out _ _ _ _ _ HO6.out HO5.out).mono ?_
      rintro e w6 ⟨rfl, hb6⟩
      have HB6 := Lib.hid (more HB5.out (Nat.le_refl _) hb6)
      have he := HE.out
      clear hb6
      go_wp2_with fail
      go_ret
      exact ⟨rfl, HB6.out⟩

set_option maxRecDepth 100000 in
theorem contract (H : Type) (enc : TypeId × Value → H) (W : World) (base : Nat) (args : Array Value) (ds gs : List (DataW H)) (before : List MemPlace)
    (hval : ∀ (j : Nat) t v, Try.f3.params[j]? = some t → args[j]? = some v → Value.okWide Try.prog W .any base t v)
    (hW : DataW.Whole enc Try.prog Try.f3.params.toList Rows.fnExactPlaceOkSpec.vars false W args.toList ds gs before) :
    Calls Try.prog 3 args W fun e W' => ∃ v, e = .returned v ∧ Rows.fnExactPlaceOkSpec.post enc Try.prog Try.f3 false true false false W args v W' := by
  have hW' := hW
  obtain ⟨p, q, hA0, hV, rfl, hfz, hnd⟩ := hW
  have hA : DataW.TrodAll enc Try.prog W 0 (fun _ => true) true Try.f3.params.toList args.toList ds p := hA0
  rw [Try.params3] at hA hval
  obtain ⟨v0, vs0, d0, ds0, p0, q0, hargs, rfl, rfl, h0, r0⟩ := trodAll_cons hA
  obtain ⟨rfl, rfl, rfl⟩ := trodAll_nil r0
  obtain rfl : args = #[v0] := by cases args; simp_all
  obtain ⟨rfl, rfl⟩ := trodVars_none hV
  obtain ⟨A0, c0, xs0, rfl, hs0, hx0⟩ := open_slots (hval 0 _ v0 rfl rfl) h0 (fun x hx => by simpa using hW'.lt x (by simp [hx]))
  exact (walk A0 c0 xs0 W hs0 hx0).mono fun e W' ⟨he, hB⟩ => ⟨_, he, law_post rfl rfl hW' laidOut (of_decide_eq_true (by kernel_rfl)) rfl Try.underlying4 hB⟩

set_option maxRecDepth 100000 in
theorem lifted (os : Os) (started : os.Started) (H : Type) (enc : TypeId × Value → H) :
    ReturnsInHanded {} Try.checked os 3 .any (Rows.fnExactPlaceOkSpec.pre6 enc Try.prog Try.f3 Rows.fnExactPlaceOkRow.domain false) (Rows.fnExactPlaceOkSpec.post enc Try.prog Try.f3 false true false false) := by
  refine returnsInHanded_of_change (C := Try.checked) own started (by kernel_rfl) Try.func3
    (ChangeSpec.witness6 (enc := enc) (C := Try.checked) false ⟨#[], #[.slice none 0 0], []⟩ 8 (by kernel_rfl) (by kernel_rfl) (by kernel_rfl) (by kernel_rfl)) ?_
  intro W base args ds gs before hval hW _ _
  exact contract H enc W base args ds gs before hval hW

set_option maxRecDepth 100000 in
theorem proved : Rows.FnExactPlaceOkSaid :=
  OpenClaim.holds_of_wide 3 Try.f3 rfl rfl rfl rfl rfl rfl rfl ⟨rfl, rfl, rfl, rfl, rfl⟩ rfl rfl rfl rfl rfl (by kernel_rfl) Try.func3 (by kernel_rfl)
    (of_decide_eq_true (by kernel_rfl)) (by unfold Func.isWrapper; first | (rw [if_pos (by decide +kernel)]; kernel_rfl) | (rw [if_neg (by decide +kernel)]; exact ⟨rfl, rfl⟩))
    (fun os started H enc _ => lifted os started H enc)
end Go.Proofs.Ytamphjmggnnonaa.fnExactPlaceOk
