/- The law FnScrollTop answers true at every code, and leaves it as it was. No conditions. -/
import Derived.Test.YtakoaiepbhomnaaNumE
import Derived.Test.YtakoaiepbhomnaaNumS
import Derived.Test.YtakoaiepbhomnaaNumY
namespace Go.Proofs.Ytakoaiepbhomnaa.fnScrollTop
open Go.Joins Go.ChangeShapes Go.WideShapes Go.ChangeAt Go.RowKit Go.Deep
set_option linter.unusedVariables false
set_option linter.unusedSimpArgs false

theorem stay (a b c : Int) : topV a b c < 0 ∨ topV a b (topV a b c) = topV a b c := by
  unfold topV
  by_cases h : (0 ≤ a ∧ a ≤ 100000) ∧ (0 ≤ b ∧ b ≤ 30) ∧ (-100000 ≤ c ∧ c ≤ 100000)
  · right
    rw [if_pos h, if_pos (by omega)]
    omega
  · left
    rw [if_neg h]
    omega
set_option maxHeartbeats 1000000 in
theorem walk (A : Option Addr) (len cap : Nat) (w : World) (hc : Code w w.heap.size A len) (hl : len ≤ maxLen) :
    Calls Try.prog 8 #[.slice A len cap] w fun e w' => e = .returned (.bool true) ∧ Below w.heap.size w w' := by
  have HC := Lib.hid hc
  have HLN := Lib.hid hl
  unfold maxLen at hl
  clear hc
  by_cases hbig : (1048576 : Int) < len
  · go_enter Try.func8, Try.ntmps8
    go_wp2_with fail
    go_ret
    exact ⟨rfl, by go_grown⟩
  · have hd : decide ((1048576 : Int) < len) = false := by simp; omega
    go_enter Try.func8, Try.ntmps8
    go_wp2_with fail
    refine (drawTop_any A len cap w HC.out HLN.out).mono ?_
    rintro e w1 ⟨a, b, c, rfl, hB⟩
    have HB1 := Lib.hid hB
    have k1 := fun w => itop_any a b c w
    have k2 := fun w => stop_any a b c w
    have HS := Lib.hid (stay a b c)
    obtain ⟨v, hv⟩ : ∃ v, topV a b c = v := ⟨_, rfl⟩
    rw [hv] at k1 k2 HS
    have K1 := Lib.hid k1
    have K2 := Lib.hid k2
    clear hB k1 k2 hv
    go_wp2_with fail
    refine (K1.out _).mono ?_
    rintro e w2 ⟨rfl, rfl⟩
    go_wp2_with fail
    refine (K2.out _).mono ?_
    rintro e w2 ⟨rfl, rfl⟩
    by_cases hn : v < 0
    · have hn1 : decide (v < 0) = true := by simpa using hn
      go_wp2_with fail
      go_ret
      exact ⟨rfl, HB1.out⟩
    · have hn1 : decide (v < 0) = false := by simpa using hn
      have HS2 := Lib.hid (HS.out.resolve_left hn)
      have k3 := fun w => itop_any a b v w
      rw [HS2.out] at k3
      have K3 := Lib.hid k3
      clear k3
      go_wp2_with fail
      refine (K3.out _).mono ?_
      rintro e w2 ⟨rfl, rfl⟩
      go_wp2_with fail
      go_ret
      exact ⟨rfl, HB1.out⟩

set_option maxRecDepth 100000 in
theorem contract (H : Type) (enc : TypeId × Value → H) (W : World) (base : Nat) (args : Array Value) (ds gs : List (DataW H)) (before : List MemPlace)
    (hval : ∀ (j : Nat) t v, Try.f8.params[j]? = some t → args[j]? = some v → Value.okWide Try.prog W .any base t v)
    (hW : DataW.Whole enc Try.prog Try.f8.params.toList Rows.fnScrollTopSpec.vars false W args.toList ds gs before) :
    Calls Try.prog 8 args W fun e W' => ∃ v, e = .returned v ∧ Rows.fnScrollTopSpec.post enc Try.prog Try.f8 false true false false W args v W' := by
  have hW' := hW
  obtain ⟨p, q, hA0, hV, rfl, hfz, hnd⟩ := hW
  have hA : DataW.TrodAll enc Try.prog W 0 (fun _ => true) true Try.f8.params.toList args.toList ds p := hA0
  rw [Try.params8] at hA hval
  obtain ⟨v0, vs0, d0, ds0, p0, q0, hargs, rfl, rfl, h0, r0⟩ := trodAll_cons hA
  obtain ⟨rfl, rfl, rfl⟩ := trodAll_nil r0
  obtain rfl : args = #[v0] := by cases args; simp_all
  obtain ⟨rfl, rfl⟩ := trodVars_none hV
  obtain ⟨A0, l0, c0, rfl, hs0, hc0⟩ := open_bytes (hval 0 _ v0 rfl rfl) h0 (fun x hx => by simpa using hW'.lt x (by simp [hx]))
  exact (walk A0 l0 c0 W hc0 hs0).mono fun e W' ⟨he, hB⟩ => ⟨_, he, law_post rfl rfl hW' laidOut (of_decide_eq_true (by kernel_rfl)) rfl Try.underlying4 hB⟩

set_option maxRecDepth 100000 in
theorem lifted (os : Os) (started : os.Started) (H : Type) (enc : TypeId × Value → H) :
    ReturnsInHanded {} Try.checked os 8 .any (Rows.fnScrollTopSpec.pre6 enc Try.prog Try.f8 Rows.fnScrollTopRow.domain false) (Rows.fnScrollTopSpec.post enc Try.prog Try.f8 false true false false) := by
  refine returnsInHanded_of_change (C := Try.checked) own started (by kernel_rfl) Try.func8
    (ChangeSpec.witness6 (enc := enc) (C := Try.checked) false ⟨#[], #[.slice none 0 0], []⟩ 8 (by kernel_rfl) (by kernel_rfl) (by kernel_rfl) (by kernel_rfl)) ?_
  intro W base args ds gs before hval hW _ _
  exact contract H enc W base args ds gs before hval hW

set_option maxRecDepth 100000 in
theorem proved : Rows.FnScrollTopSaid :=
  OpenClaim.holds_of_wide 8 Try.f8 rfl rfl rfl rfl rfl rfl rfl ⟨rfl, rfl, rfl, rfl, rfl⟩ rfl rfl rfl rfl rfl (by kernel_rfl) Try.func8 (by kernel_rfl)
    (of_decide_eq_true (by kernel_rfl)) (by unfold Func.isWrapper; first | (rw [if_pos (by decide +kernel)]; kernel_rfl) | (rw [if_neg (by decide +kernel)]; exact ⟨rfl, rfl⟩))
    (fun os started H enc _ => lifted os started H enc)
end Go.Proofs.Ytakoaiepbhomnaa.fnScrollTop
