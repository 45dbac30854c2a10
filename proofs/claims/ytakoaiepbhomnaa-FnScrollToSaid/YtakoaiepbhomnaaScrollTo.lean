/- The law FnScrollTo answers true at every code, and leaves it as it was. No conditions. -/
import Derived.Test.YtakoaiepbhomnaaNumE
import Derived.Test.YtakoaiepbhomnaaNumS
import Derived.Test.YtakoaiepbhomnaaNumY
namespace Go.Proofs.Ytakoaiepbhomnaa.fnScrollTo
open Go.Joins Go.ChangeShapes Go.WideShapes Go.ChangeAt Go.RowKit Go.Deep
set_option linter.unusedVariables false
set_option linter.unusedSimpArgs false

theorem stay (a b c d : Int) : toV a b c d < 0 ∨ (toV a (toV a b c d) c d = toV a b c d ∧ (d ≤ a → toV a b c d ≤ c ∧ c + d ≤ toV a b c d + a ∧ -1000000 ≤ c + d ∧ c + d ≤ 1000000 ∧ -1000000 ≤ toV a b c d + a ∧ toV a b c d + a ≤ 1000000)) := by
  unfold toV
  by_cases h : (0 ≤ a ∧ a ≤ 30) ∧ (0 ≤ b ∧ b ≤ 100000) ∧ (0 ≤ c ∧ c ≤ 100000) ∧ (0 ≤ d ∧ d ≤ 100000)
  · right
    rw [if_pos h]
    by_cases g : c < b ∨ d > a
    · rw [if_pos g, if_pos (by omega)]
      constructor
      · split <;> omega
      · omega
    · rw [if_neg g, if_pos (by omega)]
      constructor
      · split <;> omega
      · omega
  · left
    rw [if_neg h]
    omega
set_option maxHeartbeats 1000000 in
theorem walk (A : Option Addr) (len cap : Nat) (w : World) (hc : Code w w.heap.size A len) (hl : len ≤ maxLen) :
    Calls Try.prog 9 #[.slice A len cap] w fun e w' => e = .returned (.bool true) ∧ Below w.heap.size w w' := by
  have HC := Lib.hid hc
  have HLN := Lib.hid hl
  unfold maxLen at hl
  clear hc
  by_cases hbig : (1048576 : Int) < len
  · go_enter Try.func9, Try.ntmps9
    go_wp2_with fail
    go_ret
    exact ⟨rfl, by go_grown⟩
  · have hd : decide ((1048576 : Int) < len) = false := by simp; omega
    go_enter Try.func9, Try.ntmps9
    go_wp2_with fail
    refine (drawTo_any A len cap w HC.out HLN.out).mono ?_
    rintro e w1 ⟨a, b, c, d, rfl, hB⟩
    have HB1 := Lib.hid hB
    have k1 := fun w => ito_any a b c d w
    have k2 := fun w => sto_any a b c d w
    have HS := Lib.hid (stay a b c d)
    obtain ⟨v, hv⟩ : ∃ v, toV a b c d = v := ⟨_, rfl⟩
    rw [hv] at k1 k2 HS
    have K1 := Lib.hid k1
    have K2 := Lib.hid k2
    clear hB k1 k2 hv
    go_wp2_with fail
    refine (K1.out _).mono ?_
    rintro e w2 ⟨rfl, rfl⟩
    go_wp2_with fail
    refine (K2.out _).mono ?_
    rintro e w2 ⟨rfl, rfl⟩
    by_cases hn : v < 0
    · have hn1 : decide (v < 0) = true := by simpa using hn
      go_wp2_with fail
      go_ret
      exact ⟨rfl, HB1.out⟩
    · have hn1 : decide (v < 0) = false := by simpa using hn
      obtain ⟨hS1, hS2⟩ := HS.out.resolve_left hn
      have k3 := fun w => ito_any a v c d w
      rw [hS1] at k3
      have K3 := Lib.hid k3
      clear k3
      by_cases hm : a < d
      · have hm1 : decide (d > a) = true := by simpa using hm
        have hm2 : decide (a < d) = true := by simpa using hm
        clear hS1 hS2
        go_wp2_with fail
        refine (K3.out _).mono ?_
        rintro e w2 ⟨rfl, rfl⟩
        go_wp2_with fail
        go_ret
        exact ⟨rfl, HB1.out⟩
      · obtain ⟨g1, g2, g3, g4, g5, g6⟩ := hS2 (by omega)
        have hm1 : decide (d > a) = false := by simp; omega
        have hm2 : decide (a < d) = false := by simp; omega
        have e1 := IntWalk.i64_in (c + d) (by omega)
        have e2 := IntWalk.i64_in (v + a) (by omega)
        have d1 : decide (v ≤ c) = true := by simpa using g1
        have d2 : decide (c + d ≤ v + a) = true := by simpa using g2
        clear hS1 hS2 g3 g4 g5 g6
        go_wp2_with fail
        refine (K3.out _).mono ?_
        rintro e w2 ⟨rfl, rfl⟩
        go_wp2_with fail
        go_ret
        exact ⟨rfl, HB1.out⟩

set_option maxRecDepth 100000 in
theorem contract (H : Type) (enc : TypeId × Value → H) (W : World) (base : Nat) (args : Array Value) (ds gs : List (DataW H)) (before : List MemPlace)
    (hval : ∀ (j : Nat) t v, Try.f9.params[j]? = some t → args[j]? = some v → Value.okWide Try.prog W .any base t v)
    (hW : DataW.Whole enc Try.prog Try.f9.params.toList Rows.fnScrollToSpec.vars false W args.toList ds gs before) :
    Calls Try.prog 9 args W fun e W' => ∃ v, e = .returned v ∧ Rows.fnScrollToSpec.post enc Try.prog Try.f9 false true false false W args v W' := by
  have hW' := hW
  obtain ⟨p, q, hA0, hV, rfl, hfz, hnd⟩ := hW
  have hA : DataW.TrodAll enc Try.prog W 0 (fun _ => true) true Try.f9.params.toList args.toList ds p := hA0
  rw [Try.params9] at hA hval
  obtain ⟨v0, vs0, d0, ds0, p0, q0, hargs, rfl, rfl, h0, r0⟩ := trodAll_cons hA
  obtain ⟨rfl, rfl, rfl⟩ := trodAll_nil r0
  obtain rfl : args = #[v0] := by cases args; simp_all
  obtain ⟨rfl, rfl⟩ := trodVars_none hV
  obtain ⟨A0, l0, c0, rfl, hs0, hc0⟩ := open_bytes (hval 0 _ v0 rfl rfl) h0 (fun x hx => by simpa using hW'.lt x (by simp [hx]))
  exact (walk A0 l0 c0 W hc0 hs0).mono fun e W' ⟨he, hB⟩ => ⟨_, he, law_post rfl rfl hW' laidOut (of_decide_eq_true (by kernel_rfl)) rfl Try.underlying4 hB⟩

set_option maxRecDepth 100000 in
theorem lifted (os : Os) (started : os.Started) (H : Type) (enc : TypeId × Value → H) :
    ReturnsInHanded {} Try.checked os 9 .any (Rows.fnScrollToSpec.pre6 enc Try.prog Try.f9 Rows.fnScrollToRow.domain false) (Rows.fnScrollToSpec.post enc Try.prog Try.f9 false true false false) := by
  refine returnsInHanded_of_change (C := Try.checked) own started (by kernel_rfl) Try.func9
    (ChangeSpec.witness6 (enc := enc) (C := Try.checked) false ⟨#[], #[.slice none 0 0], []⟩ 8 (by kernel_rfl) (by kernel_rfl) (by kernel_rfl) (by kernel_rfl)) ?_
  intro W base args ds gs before hval hW _ _
  exact contract H enc W base args ds gs before hval hW

set_option maxRecDepth 100000 in
theorem proved : Rows.FnScrollToSaid :=
  OpenClaim.holds_of_wide 9 Try.f9 rfl rfl rfl rfl rfl rfl rfl ⟨rfl, rfl, rfl, rfl, rfl⟩ rfl rfl rfl rfl rfl (by kernel_rfl) Try.func9 (by kernel_rfl)
    (of_decide_eq_true (by kernel_rfl)) (by unfold Func.isWrapper; first | (rw [if_pos (by decide +kernel)]; kernel_rfl) | (rw [if_neg (by decide +kernel)]; exact ⟨rfl, rfl⟩))
    (fun os started H enc _ => lifted os started H enc)
end Go.Proofs.Ytakoaiepbhomnaa.fnScrollTo
