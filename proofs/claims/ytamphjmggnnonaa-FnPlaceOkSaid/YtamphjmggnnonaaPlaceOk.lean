/- The law FnPlaceOk answers true at every code, and leaves it as it was. No conditions. -/
import Derived.Test.YtamphjmggnnonaaPlcD
namespace Go.Proofs.Ytamphjmggnnonaa.fnPlaceOk
open Go.Joins Go.ChangeShapes Go.WideShapes Go.ChangeAt Go.RowKit Go.Deep
set_option linter.unusedVariables false
set_option linter.unusedSimpArgs false

set_option maxHeartbeats 2000000 in
theorem walk (A : Option Addr) (len cap : Nat) (w : World) (hc : Code w w.heap.size A len) (hl : len ≤ maxLen) :
    Calls Try.prog 6 #[.slice A len cap] w fun e w' => e = .returned (.bool true) ∧ Below w.heap.size w w' := by
  have HC := Lib.hid hc
  have HLN := Lib.hid hl
  unfold maxLen at hl
  clear hc
  by_cases hbig : (1048576 : Int) < len
  · go_enter Try.func6, Try.ntmps6
    go_wp2_with fail
    go_ret
    exact ⟨rfl, by go_grown⟩
  · have hd : decide ((1048576 : Int) < len) = false := by simp; omega
    go_enter Try.func6, Try.ntmps6
    go_wp2_with fail
    refine (DrawPlaceOk_any A len cap w HC.out HLN.out).mono ?_
    rintro e w1 ⟨A', c', xs, rfl, hx, h22, hcc, hB⟩
    have HX := Lib.hid hx
    have HB1 := Lib.hid hB
    have HM := Lib.hid (show xs.length ≤ maxLen by unfold maxLen; omega)
    obtain ⟨n, hn⟩ : ∃ n, xs.length = n := ⟨_, rfl⟩
    have HN := Lib.hid hn
    rw [hn] at h22 hcc HM ⊢
    clear hx hB hn
    go_wp2_with fail
    cases hv : placeB xs
    · have HV := Lib.hid hv
      have K2 := fun A c w h => iplace_n A c n xs w h HN.out HM.out
      have K3 := fun A c w h => splace_n A c n xs w h HN.out HM.out
      rw [hv] at K2 K3
      have K2' := Lib.hid K2
      have K3' := Lib.hid K3
      clear hv K2 K3
      refine (K2'.out _ _ _ HX.out).mono ?_
      rintro e w2 ⟨rfl, hb⟩
      replace HX := Lib.hid (HX.out.below hb)
      have HB2 := Lib.hid (more HB1.out (Nat.le_refl _) hb)
      clear hb
      go_wp2_with fail
      refine (K3'.out _ _ _ HX.out).mono ?_
      rintro e w3 ⟨rfl, hb⟩
      replace HX := Lib.hid (HX.out.below hb)
      have HB3 := Lib.hid (more HB2.out (Nat.le_refl _) hb)
      clear hb
      go_wp2_with fail
      go_ret
      exact ⟨rfl, HB3.out⟩
    · have HV := Lib.hid hv
      have K2 := fun A c w h => iplace_n A c n xs w h HN.out HM.out
      have K3 := fun A c w h => splace_n A c n xs w h HN.out HM.out
      rw [hv] at K2 K3
      have K2' := Lib.hid K2
      have K3' := Lib.hid K3
      clear hv K2 K3
      by_cases h0 : n = 0
      · subst h0
        refine (K2'.out _ _ _ HX.out).mono ?_
        rintro e w2 ⟨rfl, hb⟩
        replace HX := Lib.hid (HX.out.below hb)
        have HB2 := Lib.hid (more HB1.out (Nat.le_refl _) hb)
        clear hb
        go_wp2_with fail
        refine (K3'.out _ _ _ HX.out).mono ?_
        rintro e w3 ⟨rfl, hb⟩
        replace HX := Lib.hid (HX.out.below hb)
        have HB3 := Lib.hid (more HB2.out (Nat.le_refl _) hb)
        clear hb
        go_wp2_with fail
        go_ret
        exact ⟨rfl, HB3.out⟩
      obtain ⟨k, rfl⟩ : ∃ k, n = k + 1 := ⟨n - 1, by omega⟩
      have HT := Lib.hid (show (xs.take k).length = k by rw [List.length_take, HN.out]; omega)
      have HMK := Lib.hid (show k ≤ maxLen by have := HM.out; omega)
      have HCC := Lib.hid hcc
      have HCK := Lib.hid (show k ≤ c' by omega)
      have hk0 : ((k : Int) + 1 == 0) = false := by simp; omega
      have hk1 : (((k + 1 : Nat) : Int) == 0) = false := by simp; omega
      have HV1 := Lib.hid (show (placeB xs && placeB (xs.take k) && underB xs (xs.take k)) = true by rw [HV.out, placeB_take HV.out, underB_take]; rfl)
      have HV2 := Lib.hid (show (placeB (xs.take k) && placeB xs && underB (xs.take k) xs) = false by rw [underB_long (by rw [HN.out, HT.out]; omega), Bool.and_false])
      clear h0
      refine (K2'.out _ _ _ HX.out).mono ?_
      rintro e w2 ⟨rfl, hb⟩
      replace HX := Lib.hid (HX.out.below hb)
      have HB2 := Lib.hid (more HB1.out (Nat.le_refl _) hb)
      clear hb
      go_wp2_with fail
      refine (K3'.out _ _ _ HX.out).mono ?_
      rintro e w3 ⟨rfl, hb⟩
      replace HX := Lib.hid (HX.out.below hb)
      have HB3 := Lib.hid (more HB2.out (Nat.le_refl _) hb)
      clear hb
      go_wp2_with fail
      refine (iunder_n _ _ _ _ _ _ xs (xs.take k) true _ HX.out (by first | exact HX.out.cut c' k | exact HX.out.take k) HN.out HT.out HM.out HMK.out HCC.out HV1.out).mono ?_
      rintro e w4 ⟨rfl, hb⟩
      replace HX := Lib.hid (HX.out.below hb)
      have HB4 := Lib.hid (more HB3.out (Nat.le_refl _) hb)
      clear hb
      go_wp2_with fail
      refine (iunder_n _ _ _ _ _ _ (xs.take k) xs false _ (by first | exact HX.out.cut c' k | exact HX.out.take k) HX.out HT.out HN.out HMK.out HM.out HCK.out HV2.out).mono ?_
      rintro e w5 ⟨rfl, hb⟩
      replace HX := Lib.hid (HX.out.below hb)
      have HB5 := Lib.hid (more HB4.out (Nat.le_refl _) hb)
      clear hb
      go_wp2_with fail
      refine (iorder_n _ _ _ _ _ _ xs xs 0 _ HX.out HX.out HN.out HN.out HM.out HM.out (orderV_refl xs)).mono ?_
      rintro e w6 ⟨rfl, hb⟩
      have HB6 := Lib.hid (more HB5.out (Nat.le_refl _) hb)
      clear hb
      go_wp2_with fail
      go_ret
      exact ⟨rfl, HB6.out⟩

set_option maxRecDepth 100000 in
theorem contract (H : Type) (enc : TypeId × Value → H) (W : World) (base : Nat) (args : Array Value) (ds gs : List (DataW H)) (before : List MemPlace)
    (hval : ∀ (j : Nat) t v, Try.f6.params[j]? = some t → args[j]? = some v → Value.okWide Try.prog W .any base t v)
    (hW : DataW.Whole enc Try.prog Try.f6.params.toList Rows.fnPlaceOkSpec.vars false W args.toList ds gs before) :
    Calls Try.prog 6 args W fun e W' => ∃ v, e = .returned v ∧ Rows.fnPlaceOkSpec.post enc Try.prog Try.f6 false true false false W args v W' := by
  have hW' := hW
  obtain ⟨p, q, hA0, hV, rfl, hfz, hnd⟩ := hW
  have hA : DataW.TrodAll enc Try.prog W 0 (fun _ => true) true Try.f6.params.toList args.toList ds p := hA0
  rw [Try.params6] at hA hval
  obtain ⟨v0, vs0, d0, ds0, p0, q0, hargs, rfl, rfl, h0, r0⟩ := trodAll_cons hA
  obtain ⟨rfl, rfl, rfl⟩ := trodAll_nil r0
  obtain rfl : args = #[v0] := by cases args; simp_all
  obtain ⟨rfl, rfl⟩ := trodVars_none hV
  obtain ⟨A0, l0, c0, rfl, hs0, hc0⟩ := open_bytes (hval 0 _ v0 rfl rfl) h0 (fun x hx => by simpa using hW'.lt x (by simp [hx]))
  exact (walk A0 l0 c0 W hc0 hs0).mono fun e W' ⟨he, hB⟩ => ⟨_, he, law_post rfl rfl hW' laidOut (of_decide_eq_true (by kernel_rfl)) rfl Try.underlying4 hB⟩

set_option maxRecDepth 100000 in
theorem lifted (os : Os) (started : os.Started) (H : Type) (enc : TypeId × Value → H) :
    ReturnsInHanded {} Try.checked os 6 .any (Rows.fnPlaceOkSpec.pre6 enc Try.prog Try.f6 Rows.fnPlaceOkRow.domain false) (Rows.fnPlaceOkSpec.post enc Try.prog Try.f6 false true false false) := by
  refine returnsInHanded_of_change (C := Try.checked) own started (by kernel_rfl) Try.func6
    (ChangeSpec.witness6 (enc := enc) (C := Try.checked) false ⟨#[], #[.slice none 0 0], []⟩ 8 (by kernel_rfl) (by kernel_rfl) (by kernel_rfl) (by kernel_rfl)) ?_
  intro W base args ds gs before hval hW _ _
  exact contract H enc W base args ds gs before hval hW

set_option maxRecDepth 100000 in
theorem proved : Rows.FnPlaceOkSaid :=
  OpenClaim.holds_of_wide 6 Try.f6 rfl rfl rfl rfl rfl rfl rfl ⟨rfl, rfl, rfl, rfl, rfl⟩ rfl rfl rfl rfl rfl (by kernel_rfl) Try.func6 (by kernel_rfl)
    (of_decide_eq_true (by kernel_rfl)) (by unfold Func.isWrapper; first | (rw [if_pos (by decide +kernel)]; kernel_rfl) | (rw [if_neg (by decide +kernel)]; exact ⟨rfl, rfl⟩))
    (fun os started H enc _ => lifted os started H enc)
end Go.Proofs.Ytamphjmggnnonaa.fnPlaceOk
