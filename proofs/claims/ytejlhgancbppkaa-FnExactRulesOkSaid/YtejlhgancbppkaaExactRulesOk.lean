/- The law FnExactRulesOk answers true at every row of rules, and leaves it as it was. No conditions. -/
import Derived.Test.YtejlhgancbppkaaRul9
import Derived.Test.YtejlhgancbppkaaRul3
namespace Go.Proofs.Ytejlhgancbppkaa.fnExactRulesOk
open Go.Joins Go.ChangeShapes Go.WideShapes Go.ChangeAt Go.RowKit Go.Deep
set_option linter.unusedVariables false
set_option linter.unusedSimpArgs false

set_option maxHeartbeats 2000000 in
theorem walk (A : Option Addr) (c : Nat) (xs : List Ru) (w : World) (hs : xs.length ≤ maxLen) (hx : RuL w A xs) (hst : ∀ x ∈ xs, x.v.s.size ≤ maxLen) :
    Calls Try.prog 3 #[.slice A xs.length c] w fun e w' => e = .returned (.bool true) ∧ Below w.heap.size w w' := by
  obtain ⟨n, hn⟩ : ∃ n, xs.length = n := ⟨_, rfl⟩
  rw [hn] at hs ⊢
  have k0 := szRus_any A c n xs 1048576 w hx hn hs hst (by omega) (by omega)
  have hp := szRus_pos xs
  generalize szRus xs = z at k0 hp
  have HX := Lib.hid (fun W (hb : Below w.heap.size w W) => hx.below hb)
  have k2 := fun A w h => srules_any A n n xs w h hn hs
  have k3 := fun A w h => irules_any A n n xs w h hn hs
  generalize rulesB xs = v at k2 k3
  have K4 := Lib.hid (fun A A' w h h' => by have q := eqRus_any A A' n n n n xs xs w h h' hn hn hs hs; rw [eqRus_refl] at q; exact q)
  by_cases hl : (1048576 : Int) < n + z
  · rw [leftV_neg hl] at k0
    have K0 := Lib.hid k0
    clear k0 k2 k3 hx hst hs hn
    go_enter Try.func3, Try.ntmps3
    go_wp2_with (go_at_call 7; ((with_reducible refine K0.out.mono ?_); rintro e w' ⟨rfl, hb⟩))
    go_ret
    exact ⟨rfl, hb⟩
  · rw [leftV_pos (by omega)] at k0
    have K0 := Lib.hid k0
    have K1 := Lib.hid (fun w h => toRus_any A c n xs w h hn (by omega))
    have K2 := Lib.hid (fun A w h => by have q := k2 A w h; exact q)
    have K3 := Lib.hid k3
    have hz0 : 0 ≤ 1048576 - (n + z) := by omega
    clear k0 k2 k3 hx hst hs hn
    cases v
    all_goals
      go_enter Try.func3, Try.ntmps3
      go_wp2_with fail
      refine K0.out.mono ?_
      rintro e w1 ⟨rfl, hb⟩
      have HB1 := Lib.hid hb
      clear hb
      go_wp2_with fail
      refine (K1.out _ (HX.out _ HB1.out)).mono ?_
      rintro e w2 ⟨rfl, ho, hb⟩
      have HO2 := Lib.hid (Lie.of_own (c := Ru.cells) Ru.cells_len ho)
      have HB2 := Lib.hid (more HB1.out (Nat.le_refl _) hb)
      clear ho hb
      go_wp2_with fail
      refine (K2.out _ _ HO2.out).mono ?_
      rintro e w3 ⟨rfl, hb⟩
      have HB3 := Lib.hid (more HB2.out (Nat.le_refl _) hb)
      clear hb
      go_wp2_with fail
      refine (K1.out _ (HX.out _ HB3.out)).mono ?_
      rintro e w4 ⟨rfl, ho, hb⟩
      have HO4 := Lib.hid (Lie.of_own (c := Ru.cells) Ru.cells_len ho)
      have HB4 := Lib.hid (more HB3.out (Nat.le_refl _) hb)
      clear ho hb
      go_wp2_with fail
      refine (K3.out _ _ HO4.out).mono ?_
      rintro e w5 ⟨rfl, hb⟩
      have HB5 := Lib.hid (more HB4.out (Nat.le_refl _) hb)
      replace HO4 := Lib.hid (HO4.out.below hb)
      clear hb
      go_wp2_with fail
      refine (K1.out _ (HX.out _ HB5.out)).mono ?_
      rintro e w6 ⟨rfl, ho, hb⟩
      have HO6 := Lib.hid (Lie.of_own (c := Ru.cells) Ru.cells_len ho)
      have HB6 := Lib.hid (more HB5.out (Nat.le_refl _) hb)
      replace HO4 := Lib.hid (HO4.out.below hb)
      clear ho hb
      go_wp2_with fail
      refine (K4.out _ _ _ HO4.out HO6.out).mono ?_
      rintro e w7 ⟨rfl, hb⟩
      have HB7 := Lib.hid (more HB6.out (Nat.le_refl _) hb)
      clear hb
      go_wp2_with fail
      go_ret
      exact ⟨rfl, HB7.out⟩

set_option maxRecDepth 100000 in
theorem contract (H : Type) (enc : TypeId × Value → H) (W : World) (base : Nat) (args : Array Value) (ds gs : List (DataW H)) (before : List MemPlace)
    (hval : ∀ (j : Nat) t v, Try.f3.params[j]? = some t → args[j]? = some v → Value.okWide Try.prog W .any base t v)
    (hW : DataW.Whole enc Try.prog Try.f3.params.toList Rows.fnExactRulesOkSpec.vars false W args.toList ds gs before) :
    Calls Try.prog 3 args W fun e W' => ∃ v, e = .returned v ∧ Rows.fnExactRulesOkSpec.post enc Try.prog Try.f3 false true false false W args v W' := by
  have hW' := hW
  obtain ⟨p, q, hA0, hV, rfl, hfz, hnd⟩ := hW
  have hA : DataW.TrodAll enc Try.prog W 0 (fun _ => true) true Try.f3.params.toList args.toList ds p := hA0
  rw [Try.params3] at hA hval
  obtain ⟨v0, vs0, d0, ds0, p0, q0, hargs, rfl, rfl, h0, r0⟩ := trodAll_cons hA
  obtain ⟨rfl, rfl, rfl⟩ := trodAll_nil r0
  obtain rfl : args = #[v0] := by cases args; simp_all
  obtain ⟨rfl, rfl⟩ := trodVars_none hV
  obtain ⟨A0, c0, xs0, rfl, hs0, hcap0, hx0, hst0⟩ := open_Rus (hval 0 _ v0 rfl rfl) h0 (fun x hx => by simpa using hW'.lt x (by simp [hx]))
  exact (walk A0 c0 xs0 W hs0 hx0 hst0).mono fun e W' ⟨he, hB⟩ => ⟨_, he, law_post rfl rfl hW' laidOut (of_decide_eq_true (by kernel_rfl)) rfl Try.underlying4 hB⟩

set_option maxRecDepth 100000 in
theorem lifted (os : Os) (started : os.Started) (H : Type) (enc : TypeId × Value → H) :
    ReturnsInHanded {} Try.checked os 3 .any (Rows.fnExactRulesOkSpec.pre6 enc Try.prog Try.f3 Rows.fnExactRulesOkRow.domain false) (Rows.fnExactRulesOkSpec.post enc Try.prog Try.f3 false true false false) := by
  refine returnsInHanded_of_change (C := Try.checked) own started (by kernel_rfl) Try.func3
    (ChangeSpec.witness6 (enc := enc) (C := Try.checked) false ⟨#[], #[.slice none 0 0], []⟩ 8 (by kernel_rfl) (by kernel_rfl) (by kernel_rfl) (by kernel_rfl)) ?_
  intro W base args ds gs before hval hW _ _
  exact contract H enc W base args ds gs before hval hW

set_option maxRecDepth 100000 in
theorem proved : Rows.FnExactRulesOkSaid :=
  OpenClaim.holds_of_wide 3 Try.f3 rfl rfl rfl rfl rfl rfl rfl ⟨rfl, rfl, rfl, rfl, rfl⟩ rfl rfl rfl rfl rfl (by kernel_rfl) Try.func3 (by kernel_rfl)
    (of_decide_eq_true (by kernel_rfl)) (by unfold Func.isWrapper; first | (rw [if_pos (by decide +kernel)]; kernel_rfl) | (rw [if_neg (by decide +kernel)]; exact ⟨rfl, rfl⟩))
    (fun os started H enc _ => lifted os started H enc)
end Go.Proofs.Ytejlhgancbppkaa.fnExactRulesOk
