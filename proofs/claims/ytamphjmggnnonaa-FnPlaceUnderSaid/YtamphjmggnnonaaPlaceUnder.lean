/- The law FnPlaceUnder answers true at every code, and leaves it as it was. No conditions. -/
import Derived.Test.YtamphjmggnnonaaDrwO
namespace Go.Proofs.Ytamphjmggnnonaa.fnPlaceUnder
open Go.Joins Go.ChangeShapes Go.WideShapes Go.ChangeAt Go.RowKit Go.Deep
set_option linter.unusedVariables false
set_option linter.unusedSimpArgs false

set_option maxHeartbeats 2000000 in
theorem walk (A : Option Addr) (len cap : Nat) (w : World) (hc : Code w w.heap.size A len) (hl : len ≤ maxLen) :
    Calls Try.prog 8 #[.slice A len cap] w fun e w' => e = .returned (.bool true) ∧ Below w.heap.size w w' := by
  have HC := Lib.hid hc
  have HLN := Lib.hid hl
  unfold maxLen at hl
  clear hc
  by_cases hbig : (1048576 : Int) < len
  · go_enter Try.func8, Try.ntmps8
    go_wp2_with fail
    go_ret
    exact ⟨rfl, by go_grown⟩
  · have hd : decide ((1048576 : Int) < len) = false := by simp; omega
    go_enter Try.func8, Try.ntmps8
    go_wp2_with fail
    refine (DrawPlaceUnder_any A len cap w HC.out HLN.out).mono ?_
    rintro e w1 ⟨A1, c1, xs, A2, c2, ys, rfl, hx, hy, h22, h44, hc1, hc2, hB⟩
    have HX := Lib.hid hx
    have HY := Lib.hid hy
    have HB1 := Lib.hid hB
    have HMX := Lib.hid (show xs.length ≤ maxLen by unfold maxLen; omega)
    have HMY := Lib.hid (show ys.length ≤ maxLen by unfold maxLen; omega)
    have HC1 := Lib.hid hc1
    have HC2 := Lib.hid hc2
    obtain ⟨n, hn⟩ : ∃ n, xs.length = n := ⟨_, rfl⟩
    obtain ⟨m, hm⟩ : ∃ m, ys.length = m := ⟨_, rfl⟩
    have HN := Lib.hid hn
    have HM := Lib.hid hm
    rw [hn] at h22 HC1 HMX ⊢
    rw [hm] at h44 HC2 HMY ⊢
    clear hx hy hB hn hm hc1 hc2
    go_wp2_with fail
    cases hu : (placeB xs && placeB ys && underB xs ys)
    · have HUU := Lib.hid hu
      clear hu
      refine (iunder_n _ _ _ _ _ _ xs ys _ _ HX.out HY.out HN.out HM.out HMX.out HMY.out HC1.out HUU.out).mono ?_
      rintro e w2 ⟨rfl, hb⟩
      replace HX := Lib.hid (HX.out.below hb)
      replace HY := Lib.hid (HY.out.below hb)
      have HB2 := Lib.hid (more HB1.out (Nat.le_refl _) hb)
      clear hb
      go_wp2_with fail
      refine (sunder_n _ _ _ _ _ _ xs ys _ _ HX.out HY.out HN.out HM.out HMX.out HMY.out HC1.out HUU.out).mono ?_
      rintro e w3 ⟨rfl, hb⟩
      replace HX := Lib.hid (HX.out.below hb)
      replace HY := Lib.hid (HY.out.below hb)
      have HB3 := Lib.hid (more HB2.out (Nat.le_refl _) hb)
      clear hb
      go_wp2_with fail
      go_ret
      exact ⟨rfl, HB3.out⟩
    have HUU := Lib.hid hu
    by_cases h0 : m = 0
    · subst h0
      clear hu
      refine (iunder_n _ _ _ _ _ _ xs ys _ _ HX.out HY.out HN.out HM.out HMX.out HMY.out HC1.out HUU.out).mono ?_
      rintro e w2 ⟨rfl, hb⟩
      replace HX := Lib.hid (HX.out.below hb)
      replace HY := Lib.hid (HY.out.below hb)
      have HB2 := Lib.hid (more HB1.out (Nat.le_refl _) hb)
      clear hb
      go_wp2_with fail
      refine (sunder_n _ _ _ _ _ _ xs ys _ _ HX.out HY.out HN.out HM.out HMX.out HMY.out HC1.out HUU.out).mono ?_
      rintro e w3 ⟨rfl, hb⟩
      replace HX := Lib.hid (HX.out.below hb)
      replace HY := Lib.hid (HY.out.below hb)
      have HB3 := Lib.hid (more HB2.out (Nat.le_refl _) hb)
      clear hb
      go_wp2_with fail
      go_ret
      exact ⟨rfl, HB3.out⟩
    obtain ⟨k, rfl⟩ : ∃ k, m = k + 1 := ⟨m - 1, by omega⟩
    simp only [Bool.and_eq_true] at hu
    have HU2 := Lib.hid (show (placeB xs && placeB (ys.take k) && underB xs (ys.take k)) = true by rw [hu.1.1, placeB_take hu.1.2, underB_init hu.2]; rfl)
    have HT := Lib.hid (show (ys.take k).length = k by rw [List.length_take, HM.out]; omega)
    have HMK := Lib.hid (show k ≤ maxLen by have := HMY.out; omega)
    have hck : k + 1 ≤ c2 := HC2.out
    have hk0 : ((k : Int) + 1 == 0) = false := by simp; omega
    have hk1 : (((k + 1 : Nat) : Int) == 0) = false := by simp; omega
    clear hu h0
    all_goals
      refine (iunder_n _ _ _ _ _ _ xs ys _ _ HX.out HY.out HN.out HM.out HMX.out HMY.out HC1.out HUU.out).mono ?_
      rintro e w2 ⟨rfl, hb⟩
      replace HX := Lib.hid (HX.out.below hb)
      replace HY := Lib.hid (HY.out.below hb)
      have HB2 := Lib.hid (more HB1.out (Nat.le_refl _) hb)
      clear hb
      go_wp2_with fail
      refine (sunder_n _ _ _ _ _ _ xs ys _ _ HX.out HY.out HN.out HM.out HMX.out HMY.out HC1.out HUU.out).mono ?_
      rintro e w3 ⟨rfl, hb⟩
      replace HX := Lib.hid (HX.out.below hb)
      replace HY := Lib.hid (HY.out.below hb)
      have HB3 := Lib.hid (more HB2.out (Nat.le_refl _) hb)
      clear hb
      go_wp2_with fail
      refine (iunder_n _ _ _ _ _ _ xs (ys.take k) _ _ HX.out (by first | exact HY.out.cut c2 k | exact HY.out.take k) HN.out HT.out HMX.out HMK.out HC1.out HU2.out).mono ?_
      rintro e w4 ⟨rfl, hb⟩
      have HB4 := Lib.hid (more HB3.out (Nat.le_refl _) hb)
      clear hb
      go_wp2_with fail
      go_ret
      exact ⟨rfl, HB4.out⟩

set_option maxRecDepth 100000 in
theorem contract (H : Type) (enc : TypeId × Value → H) (W : World) (base : Nat) (args : Array Value) (ds gs : List (DataW H)) (before : List MemPlace)
    (hval : ∀ (j : Nat) t v, Try.f8.params[j]? = some t → args[j]? = some v → Value.okWide Try.prog W .any base t v)
    (hW : DataW.Whole enc Try.prog Try.f8.params.toList Rows.fnPlaceUnderSpec.vars false W args.toList ds gs before) :
    Calls Try.prog 8 args W fun e W' => ∃ v, e = .returned v ∧ Rows.fnPlaceUnderSpec.post enc Try.prog Try.f8 false true false false W args v W' := by
  have hW' := hW
  obtain ⟨p, q, hA0, hV, rfl, hfz, hnd⟩ := hW
  have hA : DataW.TrodAll enc Try.prog W 0 (fun _ => true) true Try.f8.params.toList args.toList ds p := hA0
  rw [Try.params8] at hA hval
  obtain ⟨v0, vs0, d0, ds0, p0, q0, hargs, rfl, rfl, h0, r0⟩ := trodAll_cons hA
  obtain ⟨rfl, rfl, rfl⟩ := trodAll_nil r0
  obtain rfl : args = #[v0] := by cases args; simp_all
  obtain ⟨rfl, rfl⟩ := trodVars_none hV
  obtain ⟨A0, l0, c0, rfl, hs0, hc0⟩ := open_bytes (hval 0 _ v0 rfl rfl) h0 (fun x hx => by simpa using hW'.lt x (by simp [hx]))
  exact (walk A0 l0 c0 W hc0 hs0).mono fun e W' ⟨he, hB⟩ => ⟨_, he, law_post rfl rfl hW' laidOut (of_decide_eq_true (by kernel_rfl)) rfl Try.underlying4 hB⟩

set_option maxRecDepth 100000 in
theorem lifted (os : Os) (started : os.Started) (H : Type) (enc : TypeId × Value → H) :
    ReturnsInHanded {} Try.checked os 8 .any (Rows.fnPlaceUnderSpec.pre6 enc Try.prog Try.f8 Rows.fnPlaceUnderRow.domain false) (Rows.fnPlaceUnderSpec.post enc Try.prog Try.f8 false true false false) := by
  refine returnsInHanded_of_change (C := Try.checked) own started (by kernel_rfl) Try.func8
    (ChangeSpec.witness6 (enc := enc) (C := Try.checked) false ⟨#[], #[.slice none 0 0], []⟩ 8 (by kernel_rfl) (by kernel_rfl) (by kernel_rfl) (by kernel_rfl)) ?_
  intro W base args ds gs before hval hW _ _
  exact contract H enc W base args ds gs before hval hW

set_option maxRecDepth 100000 in
theorem proved : Rows.FnPlaceUnderSaid :=
  OpenClaim.holds_of_wide 8 Try.f8 rfl rfl rfl rfl rfl rfl rfl ⟨rfl, rfl, rfl, rfl, rfl⟩ rfl rfl rfl rfl rfl (by kernel_rfl) Try.func8 (by kernel_rfl)
    (of_decide_eq_true (by kernel_rfl)) (by unfold Func.isWrapper; first | (rw [if_pos (by decide +kernel)]; kernel_rfl) | (rw [if_neg (by decide +kernel)]; exact ⟨rfl, rfl⟩))
    (fun os started H enc _ => lifted os started H enc)
end Go.Proofs.Ytamphjmggnnonaa.fnPlaceUnder
