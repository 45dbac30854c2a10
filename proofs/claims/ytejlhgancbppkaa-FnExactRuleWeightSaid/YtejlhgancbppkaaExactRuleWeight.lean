/- The law FnExactRuleWeight answers true at every rule, and leaves it as it was. No conditions. -/
import Derived.Test.YtejlhgancbppkaaRul9
import Derived.Test.YtejlhgancbppkaaRul3
namespace Go.Proofs.Ytejlhgancbppkaa.fnExactRuleWeight
open Go.Joins Go.ChangeShapes Go.WideShapes Go.ChangeAt Go.RowKit Go.Deep
set_option linter.unusedVariables false
set_option linter.unusedSimpArgs false

set_option maxHeartbeats 2000000 in
theorem walk (x : Ru) (w : World) (hs : x.v.s.size ≤ maxLen) :
    Calls Try.prog 4 #[.agg #[.int .i64 x.t, .int .i64 x.a, .int .i64 x.nm, .int .i64 x.v.k, .int .i64 x.v.n, .string x.v.s, .int .i64 x.l, .int .i64 x.g]] w fun e w' => e = .returned (.bool true) ∧ Below w.heap.size w w' := by
  have k0 := fun w => szRu_any x 1048576 w (by omega) (by omega) hs
  have k1 := toRu_any x
  have k2 := sweight_any x
  have k3 := iweight_any x
  have hp := szRu_pos x
  have hB := Lib.hid (Below.alloc (Below.refl w.heap.size w) (Nat.le_refl _) (.cells #[.int .i64 x.t, .int .i64 x.a, .int .i64 x.nm, .int .i64 x.v.k, .int .i64 x.v.n, .string x.v.s, .int .i64 x.l, .int .i64 x.g] 32))
  generalize weightV x = v at k2 k3
  generalize szRu x = z at k0 hp
  have K1 := Lib.hid k1
  have K2 := Lib.hid k2
  have K3 := Lib.hid k3
  clear k1 k2 k3 hs
  obtain ⟨t, a, nm, ⟨vk, vn, vs⟩, l, g⟩ := x
  dsimp only at K1 K2 K3 k0 hB ⊢
  by_cases hl : 1048576 < z
  · rw [leftV_neg hl] at k0
    have K0 := Lib.hid k0
    clear k0
    go_enter Try.func4, Try.ntmps4
    go_wp2_with (go_at_call 12; ((with_reducible refine (K0.out _).mono ?_); rintro e w' ⟨rfl, hb⟩))
    go_ret
    exact ⟨rfl, front (W0 := _) (by go_grown) (by simp <;> omega) hb⟩
  · rw [leftV_pos (by omega)] at k0
    have K0 := Lib.hid k0
    have hz0 : 0 ≤ 1048576 - z := by omega
    clear k0
    go_enter Try.func4, Try.ntmps4
    go_wp2_with fail
    refine (K0.out _).mono ?_
    rintro e w1 ⟨rfl, hb⟩
    have HB1 := Lib.hid (hB.out.trans (hb.mono hB.out.size))
    have q0 : w1.cell? ⟨w.heap.size, 0, none⟩ = some (.int .i64 t) := (hb.cell (p := ⟨w.heap.size, 0, none⟩) (by simp)).trans (by go_simp)
    have q1 : w1.cell? ⟨w.heap.size, 1, none⟩ = some (.int .i64 a) := (hb.cell (p := ⟨w.heap.size, 1, none⟩) (by simp)).trans (by go_simp)
    have q2 : w1.cell? ⟨w.heap.size, 2, none⟩ = some (.int .i64 nm) := (hb.cell (p := ⟨w.heap.size, 2, none⟩) (by simp)).trans (by go_simp)
    have q3 : w1.cell? ⟨w.heap.size, 3, none⟩ = some (.int .i64 vk) := (hb.cell (p := ⟨w.heap.size, 3, none⟩) (by simp)).trans (by go_simp)
    have q4 : w1.cell? ⟨w.heap.size, 4, none⟩ = some (.int .i64 vn) := (hb.cell (p := ⟨w.heap.size, 4, none⟩) (by simp)).trans (by go_simp)
    have q5 : w1.cell? ⟨w.heap.size, 5, none⟩ = some (.string vs) := (hb.cell (p := ⟨w.heap.size, 5, none⟩) (by simp)).trans (by go_simp)
    have q6 : w1.cell? ⟨w.heap.size, 6, none⟩ = some (.int .i64 l) := (hb.cell (p := ⟨w.heap.size, 6, none⟩) (by simp)).trans (by go_simp)
    have q7 : w1.cell? ⟨w.heap.size, 7, none⟩ = some (.int .i64 g) := (hb.cell (p := ⟨w.heap.size, 7, none⟩) (by simp)).trans (by go_simp)
    have hz1 : w.heap.size < w1.heap.size := by have := hb.size; (try simp at this); omega
    clear hb
    go_wp2_with fail
    refine (K1.out _).mono ?_
    rintro e w2 ⟨rfl, hb⟩
    have HB2 := Lib.hid (more HB1.out (Nat.le_refl _) hb)
    replace q0 := (hb.cell (p := ⟨w.heap.size, 0, none⟩) (by simp; omega)).trans q0
    replace q1 := (hb.cell (p := ⟨w.heap.size, 1, none⟩) (by simp; omega)).trans q1
    replace q2 := (hb.cell (p := ⟨w.heap.size, 2, none⟩) (by simp; omega)).trans q2
    replace q3 := (hb.cell (p := ⟨w.heap.size, 3, none⟩) (by simp; omega)).trans q3
    replace q4 := (hb.cell (p := ⟨w.heap.size, 4, none⟩) (by simp; omega)).trans q4
    replace q5 := (hb.cell (p := ⟨w.heap.size, 5, none⟩) (by simp; omega)).trans q5
    replace q6 := (hb.cell (p := ⟨w.heap.size, 6, none⟩) (by simp; omega)).trans q6
    replace q7 := (hb.cell (p := ⟨w.heap.size, 7, none⟩) (by simp; omega)).trans q7
    have hz2 : w.heap.size < w2.heap.size := by have := hb.size; (try simp at this); omega
    clear hb
    go_wp2_with fail
    refine (K2.out _).mono ?_
    rintro e w3 ⟨rfl, hb⟩
    have HB3 := Lib.hid (more HB2.out (Nat.le_refl _) hb)
    replace q0 := (hb.cell (p := ⟨w.heap.size, 0, none⟩) (by simp; omega)).trans q0
    replace q1 := (hb.cell (p := ⟨w.heap.size, 1, none⟩) (by simp; omega)).trans q1
    replace q2 := (hb.cell (p := ⟨w.heap.size, 2, none⟩) (by simp; omega)).trans q2
    replace q3 := (hb.cell (p := ⟨w.heap.size, 3, none⟩) (by simp; omega)).trans q3
    replace q4 := (hb.cell (p := ⟨w.heap.size, 4, none⟩) (by simp; omega)).trans q4
    replace q5 := (hb.cell (p := ⟨w.heap.size, 5, none⟩) (by simp; omega)).trans q5
    replace q6 := (hb.cell (p := ⟨w.heap.size, 6, none⟩) (by simp; omega)).trans q6
    replace q7 := (hb.cell (p := ⟨w.heap.size, 7, none⟩) (by simp; omega)).trans q7
    have hz3 : w.heap.size < w3.heap.size := by have := hb.size; (try simp at this); omega
    clear hb
    go_wp2_with fail
    refine (K1.out _).mono ?_
    rintro e w4 ⟨rfl, hb⟩
    have HB4 := Lib.hid (more HB3.out (Nat.le_refl _) hb)
    replace q0 := (hb.cell (p := ⟨w.heap.size, 0, none⟩) (by simp; omega)).trans q0
    replace q1 := (hb.cell (p := ⟨w.heap.size, 1, none⟩) (by simp; omega)).trans q1
    replace q2 := (hb.cell (p := ⟨w.heap.size, 2, none⟩) (by simp; omega)).trans q2
    replace q3 := (hb.cell (p := ⟨w.heap.size, 3, none⟩) (by simp; omega)).trans q3
    replace q4 := (hb.cell (p := ⟨w.heap.size, 4, none⟩) (by simp; omega)).trans q4
    replace q5 := (hb.cell (p := ⟨w.heap.size, 5, none⟩) (by simp; omega)).trans q5
    replace q6 := (hb.cell (p := ⟨w.heap.size, 6, none⟩) (by simp; omega)).trans q6
    replace q7 := (hb.cell (p := ⟨w.heap.size, 7, none⟩) (by simp; omega)).trans q7
    have hz4 : w.heap.size < w4.heap.size := by have := hb.size; (try simp at this); omega
    clear hb
    go_wp2_with fail
    refine (K3.out _).mono ?_
    rintro e w5 ⟨rfl, hb⟩
    have HB5 := Lib.hid (more HB4.out (Nat.le_refl _) hb)
    replace q0 := (hb.cell (p := ⟨w.heap.size, 0, none⟩) (by simp; omega)).trans q0
    replace q1 := (hb.cell (p := ⟨w.heap.size, 1, none⟩) (by simp; omega)).trans q1
    replace q2 := (hb.cell (p := ⟨w.heap.size, 2, none⟩) (by simp; omega)).trans q2
    replace q3 := (hb.cell (p := ⟨w.heap.size, 3, none⟩) (by simp; omega)).trans q3
    replace q4 := (hb.cell (p := ⟨w.heap.size, 4, none⟩) (by simp; omega)).trans q4
    replace q5 := (hb.cell (p := ⟨w.heap.size, 5, none⟩) (by simp; omega)).trans q5
    replace q6 := (hb.cell (p := ⟨w.heap.size, 6, none⟩) (by simp; omega)).trans q6
    replace q7 := (hb.cell (p := ⟨w.heap.size, 7, none⟩) (by simp; omega)).trans q7
    have hz5 : w.heap.size < w5.heap.size := by have := hb.size; (try simp at this); omega
    clear hb
    go_wp2_with fail
    go_ret
    exact ⟨rfl, HB5.out⟩

set_option maxRecDepth 100000 in
theorem contract (H : Type) (enc : TypeId × Value → H) (W : World) (base : Nat) (args : Array Value) (ds gs : List (DataW H)) (before : List MemPlace)
    (hval : ∀ (j : Nat) t v, Try.f4.params[j]? = some t → args[j]? = some v → Value.okWide Try.prog W .any base t v)
    (hW : DataW.Whole enc Try.prog Try.f4.params.toList Rows.fnExactRuleWeightSpec.vars false W args.toList ds gs before) :
    Calls Try.prog 4 args W fun e W' => ∃ v, e = .returned v ∧ Rows.fnExactRuleWeightSpec.post enc Try.prog Try.f4 false true false false W args v W' := by
  have hW' := hW
  obtain ⟨p, q, hA0, hV, rfl, hfz, hnd⟩ := hW
  have hA : DataW.TrodAll enc Try.prog W 0 (fun _ => true) true Try.f4.params.toList args.toList ds p := hA0
  rw [Try.params4] at hA hval
  obtain ⟨v0, vs0, d0, ds0, p0, q0, hargs, rfl, rfl, h0, r0⟩ := trodAll_cons hA
  obtain ⟨rfl, rfl, rfl⟩ := trodAll_nil r0
  obtain rfl : args = #[v0] := by cases args; simp_all
  obtain ⟨rfl, rfl⟩ := trodVars_none hV
  obtain ⟨x0, rfl, hs0⟩ := open_Ru (hval 0 _ v0 rfl rfl) h0
  exact (walk x0 W hs0).mono fun e W' ⟨he, hB⟩ => ⟨_, he, law_post rfl rfl hW' laidOut (of_decide_eq_true (by kernel_rfl)) rfl Try.underlying4 hB⟩

set_option maxRecDepth 100000 in
theorem lifted (os : Os) (started : os.Started) (H : Type) (enc : TypeId × Value → H) :
    ReturnsInHanded {} Try.checked os 4 .any (Rows.fnExactRuleWeightSpec.pre6 enc Try.prog Try.f4 Rows.fnExactRuleWeightRow.domain false) (Rows.fnExactRuleWeightSpec.post enc Try.prog Try.f4 false true false false) := by
  refine returnsInHanded_of_change (C := Try.checked) own started (by kernel_rfl) Try.func4
    (ChangeSpec.witness6 (enc := enc) (C := Try.checked) false ⟨#[], #[.agg #[.int .i64 0, .int .i64 0, .int .i64 0, .int .i64 0, .int .i64 0, .string ⟨#[]⟩, .int .i64 0, .int .i64 0]], []⟩ 8 (by kernel_rfl) (by kernel_rfl) (by kernel_rfl) (by kernel_rfl)) ?_
  intro W base args ds gs before hval hW _ _
  exact contract H enc W base args ds gs before hval hW

set_option maxRecDepth 100000 in
theorem proved : Rows.FnExactRuleWeightSaid :=
  OpenClaim.holds_of_wide 4 Try.f4 rfl rfl rfl rfl rfl rfl rfl ⟨rfl, rfl, rfl, rfl, rfl⟩ rfl rfl rfl rfl rfl (by kernel_rfl) Try.func4 (by kernel_rfl)
    (of_decide_eq_true (by kernel_rfl)) (by unfold Func.isWrapper; first | (rw [if_pos (by decide +kernel)]; kernel_rfl) | (rw [if_neg (by decide +kernel)]; exact ⟨rfl, rfl⟩))
    (fun os started H enc _ => lifted os started H enc)
end Go.Proofs.Ytejlhgancbppkaa.fnExactRuleWeight
