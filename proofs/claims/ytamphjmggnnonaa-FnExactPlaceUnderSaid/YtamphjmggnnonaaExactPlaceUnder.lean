/- The law FnExactPlaceUnder answers true at every two places, and leaves them as they were. No conditions. -/
import Derived.Test.YtamphjmggnnonaaPlc9
namespace Go.Proofs.Ytamphjmggnnonaa.fnExactPlaceUnder
open Go.Joins Go.ChangeShapes Go.WideShapes Go.ChangeAt Go.RowKit Go.Deep
set_option linter.unusedVariables false
set_option linter.unusedSimpArgs false

set_option maxHeartbeats 2000000 in
theorem walk (A : Option Addr) (c : Nat) (xs : List Sl) (A' : Option Addr) (c' : Nat) (ys : List Sl) (w : World) (hs : xs.length ≤ maxLen) (hx : SlL w A xs) (hs' : ys.length ≤ maxLen) (hy : SlL w A' ys) :
    Calls Try.prog 5 #[.slice A xs.length c, .slice A' ys.length c'] w fun e w' => e = .returned (.bool true) ∧ Below w.heap.size w w' := by
  have hz := szSlots_any A xs.length c 1048576
  have hz' := szSlots_any A' ys.length c' (1048576 - xs.length)
  have hm : xs.length ≤ maxLen := hs
  have hm' : ys.length ≤ maxLen := hs'
  unfold maxLen at hm hm'
  have HS := Lib.hid hs
  have HS' := Lib.hid hs'
  by_cases hl : (1048576 : Int) < xs.length
  · simp only [if_pos hl] at hz
    have HZ := Lib.hid hz
    clear hz hz' hs hs'
    go_enter Try.func5, Try.ntmps5
    go_wp2_with (go_at_call 17; ((with_reducible refine (HZ.out _ (by omega) (by omega) HS.out).mono ?_); rintro e w' ⟨rfl, rfl⟩))
    go_ret
    exact ⟨rfl, Below.refl _ _⟩
  simp only [if_neg hl] at hz
  have HZ := Lib.hid hz
  by_cases hl' : (1048576 : Int) - xs.length < ys.length
  · simp only [if_pos hl'] at hz'
    have HZ' := Lib.hid hz'
    clear hz hz' hs hs'
    go_enter Try.func5, Try.ntmps5
    go_wp2_with (first
      | (go_at_call 17; ((with_reducible refine (HZ.out _ (by omega) (by omega) HS.out).mono ?_); rintro e w' ⟨rfl, rfl⟩))
      | (go_at_call 17; ((with_reducible refine (HZ'.out _ (by omega) (by omega) HS'.out).mono ?_); rintro e w' ⟨rfl, rfl⟩)))
    go_ret
    exact ⟨rfl, Below.refl _ _⟩
  simp only [if_neg hl'] at hz'
  have HZ' := Lib.hid hz'
  have HX := Lib.hid hx
  have HY := Lib.hid hy
  have K1 := Lib.hid (toSlots_any A c xs)
  have K1' := Lib.hid (toSlots_any A' c' ys)
  have k2 := fun A A' c c' w h h' (hcc : xs.length ≤ c) => sunder_any A A' c c' xs ys w h h' hs hs' hcc
  have k3 := fun A A' c c' w h h' (hcc : xs.length ≤ c) => iunder_any A A' c c' xs ys w h h' hs hs' hcc
  have K4 := Lib.hid (fun A' A'' c' c'' w h h' => eqSlots_any A' A'' c' c'' xs xs w h h' hs hs)
  have K4' := Lib.hid (fun A' A'' c' c'' w h h' => eqSlots_any A' A'' c' c'' ys ys w h h' hs' hs')
  have HE := Lib.hid (eqSl_refl xs)
  have HE' := Lib.hid (eqSl_refl ys)
  have hl2 : xs.length ≤ 1048576 := by omega
  have hl2' : ys.length ≤ 1048576 := by omega
  obtain ⟨n, hn⟩ : ∃ n, xs.length = n := ⟨_, rfl⟩
  obtain ⟨m, hmm⟩ : ∃ m, ys.length = m := ⟨_, rfl⟩
  have HL2 := Lib.hid hl2
  have HL2' := Lib.hid hl2'
  have hn3 : (n : Int) ≤ 1048576 := by omega
  have hn4 : (m : Int) ≤ 1048576 - n := by omega
  rw [hn] at k2 k3 HZ HZ' K1 K4 HS HL2 ⊢
  rw [hmm] at k2 k3 HZ' K1' K4' HS' HL2' ⊢
  clear hz hz' hx hy hs hs' hl hl' hn hmm hl2 hl2' hm hm'
  cases hv : (placeB xs && placeB ys && underB xs ys)
  all_goals
    rw [hv] at k2 k3
    clear hv
    have K2 := Lib.hid k2
    have K3 := Lib.hid k3
    clear k2 k3
    go_enter Try.func5, Try.ntmps5
    go_wp2_with (first
      | (go_at_call 17; ((with_reducible refine (HZ.out _ (by omega) (by omega) HS.out).mono ?_); rintro e w' ⟨rfl, rfl⟩))
      | (go_at_call 17; ((with_reducible refine (HZ'.out _ (by omega) (by omega) HS'.out).mono ?_); rintro e w' ⟨rfl, rfl⟩)))
    refine (K1.out _ HX.out HL2.out).mono ?_
    rintro e w1 ⟨rfl, ho, hb⟩
    have HO1 := Lib.hid (Lie.of_own (c := Sl.cells) (fun _ => rfl) ho)
    have HB1 := Lib.hid (hb)
    clear ho hb
    go_wp2_with fail
    refine (K1'.out _ (HY.out.below HB1.out) HL2'.out).mono ?_
    rintro e w2 ⟨rfl, ho, hb⟩
    have HO2 := Lib.hid (Lie.of_own (c := Sl.cells) (fun _ => rfl) ho)
    have HB2 := Lib.hid (more HB1.out (Nat.le_refl _) hb)
    replace HO1 := Lib.hid (HO1.out.below hb)
    clear ho hb
    go_wp2_with fail
    refine (K2.out _ _ _ _ _ HO1.out HO2.out (Nat.le_refl _)).mono ?_
    rintro e w3 ⟨rfl, hb⟩
    have HB3 := Lib.hid (more HB2.out (Nat.le_refl _) hb)
    clear hb
    go_wp2_with fail
    refine (K1.out _ (HX.out.below HB3.out) HL2.out).mono ?_
    rintro e w4 ⟨rfl, ho, hb⟩
    have HO4 := Lib.hid (Lie.of_own (c := Sl.cells) (fun _ => rfl) ho)
    have HB4 := Lib.hid (more HB3.out (Nat.le_refl _) hb)
    clear ho hb
    go_wp2_with fail
    refine (K1'.out _ (HY.out.below HB4.out) HL2'.out).mono ?_
    rintro e w5 ⟨rfl, ho, hb⟩
    have HO5 := Lib.hid (Lie.of_own (c := Sl.cells) (fun _ => rfl) ho)
    have HB5 := Lib.hid (more HB4.out (Nat.le_refl _) hb)
    replace HO4 := Lib.hid (HO4.out.below hb)
    clear ho hb
    go_wp2_with fail
    refine (K3.out _ _ _ _ _ HO4.out HO5.out (Nat.le_refl _)).mono ?_
    rintro e w6 ⟨rfl, hb⟩
    have HB6 := Lib.hid (more HB5.out (Nat.le_refl _) hb)
    replace HO4 := Lib.hid (HO4.out.below hb)
    replace HO5 := Lib.hid (HO5.out.below hb)
    clear hb
    go_wp2_with fail
    refine (K1.out _ (HX.out.below HB6.out) HL2.out).mono ?_
    rintro e w7 ⟨rfl, ho, hb⟩
    have HO7 := Lib.hid (Lie.of_own (c := Sl.cells) (fun _ => rfl) ho)
    have HB7 := Lib.hid (more HB6.out (Nat.le_refl _) hb)
    replace HO4 := Lib.hid (HO4.out.below hb)
    replace HO5 := Lib.hid (HO5.out.below hb)
    clear ho hb
    go_wp2_with fail
    have he := HE.out
    refine (K4.out _ _ _ _ _ HO4.out HO7.out).mono ?_
    rintro e w8 ⟨rfl, hb⟩
    have HB8 := Lib.hid (more HB7.out (Nat.le_refl _) hb)
    replace HO5 := Lib.hid (HO5.out.below hb)
    clear hb
    go_wp2_with fail
    refine (K1'.out _ (HY.out.below HB8.out) HL2'.out).mono ?_
    rintro e w9 ⟨rfl, ho, hb⟩
    have HO9 := Lib.hid (Lie.of_own (c := Sl.cells) (fun _ => rfl) ho)
    have HB9 := Lib.hid (more HB8.out (Nat.le_refl _) hb)
    replace HO5 := Lib.hid (HO5.out.below hb)
    clear ho hb
    go_wp2_with fail
    have he' := HE'.out
    refine (K4'.out _ _ _ _ _ HO5.out HO9.out).mono ?_
    rintro e w10 ⟨rfl, hb⟩
    have HB10 := Lib.hid (more HB9.out (Nat.le_refl _) hb)
    clear hb
    go_wp2_with fail
    go_ret
    exact ⟨rfl, HB10.out⟩

set_option maxRecDepth 100000 in
theorem contract (H : Type) (enc : TypeId × Value → H) (W : World) (base : Nat) (args : Array Value) (ds gs : List (DataW H)) (before : List MemPlace)
    (hval : ∀ (j : Nat) t v, Try.f5.params[j]? = some t → args[j]? = some v → Value.okWide Try.prog W .any base t v)
    (hW : DataW.Whole enc Try.prog Try.f5.params.toList Rows.fnExactPlaceUnderSpec.vars false W args.toList ds gs before) :
    Calls Try.prog 5 args W fun e W' => ∃ v, e = .returned v ∧ Rows.fnExactPlaceUnderSpec.post enc Try.prog Try.f5 false true false false W args v W' := by
  have hW' := hW
  obtain ⟨p, q, hA0, hV, rfl, hfz, hnd⟩ := hW
  have hA : DataW.TrodAll enc Try.prog W 0 (fun _ => true) true Try.f5.params.toList args.toList ds p := hA0
  rw [Try.params5] at hA hval
  obtain ⟨v0, vs0, d0, ds0, p0, q0, hargs, rfl, rfl, h0, r0⟩ := trodAll_cons hA
  obtain ⟨v1, vs1, d1, ds1, p1, q1, rfl, rfl, rfl, h1, r1⟩ := trodAll_cons r0
  obtain ⟨rfl, rfl, rfl⟩ := trodAll_nil r1
  obtain rfl : args = #[v0, v1] := by cases args; simp_all
  obtain ⟨rfl, rfl⟩ := trodVars_none hV
  obtain ⟨A0, c0, xs0, rfl, hs0, hcap0, hx0⟩ := open_slots (hval 0 _ v0 rfl rfl) h0 (fun x hx => by simpa using hW'.lt x (by simp [hx]))
  obtain ⟨A1, c1, xs1, rfl, hs1, hcap1, hx1⟩ := open_slots (hval 1 _ v1 rfl rfl) h1 (fun x hx => by simpa using hW'.lt x (by simp [hx]))
  exact (walk A0 c0 xs0 A1 c1 xs1 W hs0 hx0 hs1 hx1).mono fun e W' ⟨he, hB⟩ => ⟨_, he, law_post rfl rfl hW' laidOut (of_decide_eq_true (by kernel_rfl)) rfl Try.underlying4 hB⟩

set_option maxRecDepth 100000 in
theorem lifted (os : Os) (started : os.Started) (H : Type) (enc : TypeId × Value → H) :
    ReturnsInHanded {} Try.checked os 5 .any (Rows.fnExactPlaceUnderSpec.pre6 enc Try.prog Try.f5 Rows.fnExactPlaceUnderRow.domain false) (Rows.fnExactPlaceUnderSpec.post enc Try.prog Try.f5 false true false false) := by
  refine returnsInHanded_of_change (C := Try.checked) own started (by kernel_rfl) Try.func5
    (ChangeSpec.witness6 (enc := enc) (C := Try.checked) false ⟨#[], #[.slice none 0 0, .slice none 0 0], []⟩ 8 (by kernel_rfl) (by kernel_rfl) (by kernel_rfl) (by kernel_rfl)) ?_
  intro W base args ds gs before hval hW _ _
  exact contract H enc W base args ds gs before hval hW

set_option maxRecDepth 100000 in
theorem proved : Rows.FnExactPlaceUnderSaid :=
  OpenClaim.holds_of_wide 5 Try.f5 rfl rfl rfl rfl rfl rfl rfl ⟨rfl, rfl, rfl, rfl, rfl⟩ rfl rfl rfl rfl rfl (by kernel_rfl) Try.func5 (by kernel_rfl)
    (of_decide_eq_true (by kernel_rfl)) (by unfold Func.isWrapper; first | (rw [if_pos (by decide +kernel)]; kernel_rfl) | (rw [if_neg (by decide +kernel)]; exact ⟨rfl, rfl⟩))
    (fun os started H enc _ => lifted os started H enc)
end Go.Proofs.Ytamphjmggnnonaa.fnExactPlaceUnder
