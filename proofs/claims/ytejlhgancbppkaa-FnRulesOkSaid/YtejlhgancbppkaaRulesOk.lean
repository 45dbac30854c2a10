/- The law FnRulesOk answers true at every code, and leaves it as it was. No conditions. -/
import Derived.Test.YtejlhgancbppkaaDrwR2
import Derived.Test.YtejlhgancbppkaaBytes
namespace Go.Proofs.Ytejlhgancbppkaa.fnRulesOk
open Go.Joins Go.ChangeShapes Go.WideShapes Go.ChangeAt Go.RowKit Go.Deep
set_option linter.unusedVariables false
set_option linter.unusedSimpArgs false

theorem dropA {w : World} {b : Nat} {xs : List Ru} (h : RuL w (some ⟨b, 0, none⟩) xs) (k : Nat) : RuL w (some ⟨b, k * 8, none⟩) (xs.drop k) := by
  have := RuL.drop h k (xs.length + k + 1) (by omega)
  rw [if_neg (by omega)] at this
  exact this
theorem rulesB_half (xs : List Ru) (k : Nat) : rulesB xs = true → rulesB (xs.take k) = true ∧ rulesB (xs.drop k) = true := by
  intro h
  unfold rulesB at *
  simp only [Bool.and_eq_true, decide_eq_true_eq, List.all_eq_true] at *
  exact ⟨⟨by rw [List.length_take]; omega, fun x hx => h.2 x (List.mem_of_mem_take hx)⟩, ⟨by rw [List.length_drop]; omega, fun x hx => h.2 x (List.mem_of_mem_drop hx)⟩⟩
set_option maxHeartbeats 2000000 in
theorem walk (A : Option Addr) (len cap : Nat) (w : World) (hc : Code w w.heap.size A len) (hl : len ≤ maxLen) :
    Calls Try.prog 5 #[.slice A len cap] w fun e w' => e = .returned (.bool true) ∧ Below w.heap.size w w' := by
  have HC := Lib.hid hc
  have HLN := Lib.hid hl
  unfold maxLen at hl
  clear hc
  by_cases hbig : (1048576 : Int) < len
  · go_enter Try.func5, Try.ntmps5
    go_wp2_with fail
    go_ret
    exact ⟨rfl, by go_grown⟩
  · have hd : decide ((1048576 : Int) < len) = false := by simp; omega
    go_enter Try.func5, Try.ntmps5
    go_wp2_with fail
    refine (DrawRulesOk_any A len cap w HC.out HLN.out).mono ?_
    rintro e w1 ⟨b, c, xs, rfl, hx, h9, hcc, hB⟩
    have HX := Lib.hid hx
    have HB1 := Lib.hid hB
    obtain ⟨n, hn⟩ : ∃ n, xs.length = n := ⟨_, rfl⟩
    have HN := Lib.hid hn
    have HCC := Lib.hid hcc
    rw [hn] at h9 HCC ⊢
    have k2 := fun w h => irules_any (some ⟨b, 0, none⟩) c n xs w h hn (by unfold maxLen; omega)
    have k3 := fun w h => srules_any (some ⟨b, 0, none⟩) c n xs w h hn (by unfold maxLen; omega)
    have hsp := rulesB_half xs (n / 2)
    clear hx hB hn hcc
    generalize rulesB xs = v at k2 k3 hsp
    have K2 := Lib.hid k2
    have K3 := Lib.hid k3
    clear k2 k3
    cases v
    · go_wp2_with fail
      refine (K2.out _ HX.out).mono ?_
      rintro e w2 ⟨rfl, hb⟩
      have HB2 := Lib.hid (more HB1.out (Nat.le_refl _) hb)
      replace HX := Lib.hid (HX.out.below hb)
      clear hb
      go_wp2_with fail
      refine (K3.out _ HX.out).mono ?_
      rintro e w3 ⟨rfl, hb⟩
      have HB3 := Lib.hid (more HB2.out (Nat.le_refl _) hb)
      replace HX := Lib.hid (HX.out.below hb)
      clear hb
      go_wp2_with fail
      go_ret
      exact ⟨rfl, HB3.out⟩
    obtain ⟨h1, h2⟩ := hsp rfl
    have HT := Lib.hid (show (xs.take (n / 2)).length = n / 2 by rw [List.length_take, HN.out]; omega)
    have HD := Lib.hid (show (xs.drop (n / 2)).length = n - n / 2 by rw [List.length_drop, HN.out])
    have k4 := fun A c w h => irules_any A c (n / 2) (xs.take (n / 2)) w h HT.out (by unfold maxLen; omega)
    have k5 := fun A c w h => irules_any A c (n - n / 2) (xs.drop (n / 2)) w h HD.out (by unfold maxLen; omega)
    rw [h1] at k4
    rw [h2] at k5
    have K4 := Lib.hid k4
    have K5 := Lib.hid k5
    clear k4 k5 h1 h2 hsp
    have hq0 : (n : Int) / 2 ≤ n := by omega
    have hq1 : (0 : Int) ≤ (n : Int) / 2 := by omega
    have hq2 : n ≤ c := HCC.out
    have hq3 : (n : Int) / 2 ≤ c := by omega
    go_wp2_with fail
    refine (K2.out _ HX.out).mono ?_
    rintro e w2 ⟨rfl, hb⟩
    have HB2 := Lib.hid (more HB1.out (Nat.le_refl _) hb)
    replace HX := Lib.hid (HX.out.below hb)
    clear hb
    go_wp2_with fail
    refine (K3.out _ HX.out).mono ?_
    rintro e w3 ⟨rfl, hb⟩
    have HB3 := Lib.hid (more HB2.out (Nat.le_refl _) hb)
    replace HX := Lib.hid (HX.out.below hb)
    clear hb
    go_wp2_with fail
    refine (K4.out _ _ _ (RuL.take (c := c) HX.out _)).mono ?_
    rintro e w4 ⟨rfl, hb⟩
    have HB4 := Lib.hid (more HB3.out (Nat.le_refl _) hb)
    replace HX := Lib.hid (HX.out.below hb)
    clear hb
    go_wp2_with fail
    all_goals
      refine (K5.out _ _ _ (by first | exact dropA HX.out _ | (intro h0; exfalso; rw [List.length_drop, HN.out] at h0; omega))).mono ?_
      rintro e w5 ⟨rfl, hb⟩
      have HB5 := Lib.hid (more HB4.out (Nat.le_refl _) hb)
      clear hb
      go_wp2_with fail
      go_ret
      exact ⟨rfl, HB5.out⟩

set_option maxRecDepth 100000 in
theorem contract (H : Type) (enc : TypeId × Value → H) (W : World) (base : Nat) (args : Array Value) (ds gs : List (DataW H)) (before : List MemPlace)
    (hval : ∀ (j : Nat) t v, Try.f5.params[j]? = some t → args[j]? = some v → Value.okWide Try.prog W .any base t v)
    (hW : DataW.Whole enc Try.prog Try.f5.params.toList Rows.fnRulesOkSpec.vars false W args.toList ds gs before) :
    Calls Try.prog 5 args W fun e W' => ∃ v, e = .returned v ∧ Rows.fnRulesOkSpec.post enc Try.prog Try.f5 false true false false W args v W' := by
  have hW' := hW
  obtain ⟨p, q, hA0, hV, rfl, hfz, hnd⟩ := hW
  have hA : DataW.TrodAll enc Try.prog W 0 (fun _ => true) true Try.f5.params.toList args.toList ds p := hA0
  rw [Try.params5] at hA hval
  obtain ⟨v0, vs0, d0, ds0, p0, q0, hargs, rfl, rfl, h0, r0⟩ := trodAll_cons hA
  obtain ⟨rfl, rfl, rfl⟩ := trodAll_nil r0
  obtain rfl : args = #[v0] := by cases args; simp_all
  obtain ⟨rfl, rfl⟩ := trodVars_none hV
  obtain ⟨A0, l0, c0, rfl, hs0, hc0⟩ := open_bytes (hval 0 _ v0 rfl rfl) h0 (fun x hx => by simpa using hW'.lt x (by simp [hx]))
  exact (walk A0 l0 c0 W hc0 hs0).mono fun e W' ⟨he, hB⟩ => ⟨_, he, law_post rfl rfl hW' laidOut (of_decide_eq_true (by kernel_rfl)) rfl Try.underlying4 hB⟩

set_option maxRecDepth 100000 in
theorem lifted (os : Os) (started : os.Started) (H : Type) (enc : TypeId × Value → H) :
    ReturnsInHanded {} Try.checked os 5 .any (Rows.fnRulesOkSpec.pre6 enc Try.prog Try.f5 Rows.fnRulesOkRow.domain false) (Rows.fnRulesOkSpec.post enc Try.prog Try.f5 false true false false) := by
  refine returnsInHanded_of_change (C := Try.checked) own started (by kernel_rfl) Try.func5
    (ChangeSpec.witness6 (enc := enc) (C := Try.checked) false ⟨#[], #[.slice none 0 0], []⟩ 8 (by kernel_rfl) (by kernel_rfl) (by kernel_rfl) (by kernel_rfl)) ?_
  intro W base args ds gs before hval hW _ _
  exact contract H enc W base args ds gs before hval hW

set_option maxRecDepth 100000 in
theorem proved : Rows.FnRulesOkSaid :=
  OpenClaim.holds_of_wide 5 Try.f5 rfl rfl rfl rfl rfl rfl rfl ⟨rfl, rfl, rfl, rfl, rfl⟩ rfl rfl rfl rfl rfl (by kernel_rfl) Try.func5 (by kernel_rfl)
    (of_decide_eq_true (by kernel_rfl)) (by unfold Func.isWrapper; first | (rw [if_pos (by decide +kernel)]; kernel_rfl) | (rw [if_neg (by decide +kernel)]; exact ⟨rfl, rfl⟩))
    (fun os started H enc _ => lifted os started H enc)
end Go.Proofs.Ytejlhgancbppkaa.fnRulesOk
