/- The law FnRuleWeight answers true at every code, and leaves it as it was. No conditions. -/
import Derived.Test.YtejlhgancbppkaaDrwR2
import Derived.Test.YtejlhgancbppkaaBytes
namespace Go.Proofs.Ytejlhgancbppkaa.fnRuleWeight
open Go.Joins Go.ChangeShapes Go.WideShapes Go.ChangeAt Go.RowKit Go.Deep
set_option linter.unusedVariables false
set_option linter.unusedSimpArgs false

theorem weight_less (x : Ru) : (weightV x < 0) ∨ (0 ≤ weightV x ∧ weightV ⟨x.t, x.a, -1, zeroV, x.l, x.g⟩ ≤ weightV x ∧ weightV ⟨-1, x.a, -1, zeroV, x.l, x.g⟩ ≤ weightV ⟨x.t, x.a, -1, zeroV, x.l, x.g⟩) := by
  unfold weightV
  cases hv : ruleB x
  · left; simp
  · right
    have hz := zeroV_ok
    unfold ruleB at hv
    simp only [Bool.and_eq_true, decide_eq_true_eq] at hv
    obtain ⟨h1, h2, h3, h4, h5, h6, h7⟩ := hv
    have e1 : ruleB ⟨x.t, x.a, -1, zeroV, x.l, x.g⟩ = true := by
      unfold ruleB
      simp only [Bool.and_eq_true, decide_eq_true_eq]
      exact ⟨h1, h2, by omega, hz, by simp, h6, h7⟩
    have e2 : ruleB ⟨-1, x.a, -1, zeroV, x.l, x.g⟩ = true := by
      unfold ruleB
      simp only [Bool.and_eq_true, decide_eq_true_eq]
      exact ⟨by omega, h2, by omega, hz, by simp, h6, h7⟩
    rw [if_pos rfl, e1, e2, if_pos rfl, if_pos rfl]
    by_cases a1 : x.t = -1 <;> by_cases a2 : x.a = -1 <;> by_cases a3 : x.nm = -1 <;> simp [weighV, a1, a2, a3]
set_option maxHeartbeats 2000000 in
theorem walk (A : Option Addr) (len cap : Nat) (w : World) (hc : Code w w.heap.size A len) (hl : len ≤ maxLen) :
    Calls Try.prog 6 #[.slice A len cap] w fun e w' => e = .returned (.bool true) ∧ Below w.heap.size w w' := by
  have HC := Lib.hid hc
  have HLN := Lib.hid hl
  unfold maxLen at hl
  clear hc
  by_cases hbig : (1048576 : Int) < len
  · go_enter Try.func6, Try.ntmps6
    go_wp2_with fail
    go_ret
    exact ⟨rfl, by go_grown⟩
  · have hd : decide ((1048576 : Int) < len) = false := by simp; omega
    go_enter Try.func6, Try.ntmps6
    go_wp2_with fail
    refine (DrawRuleWeight_any A len cap w HC.out HLN.out).mono ?_
    rintro e w1 ⟨x, rfl, hB⟩
    have HB1 := Lib.hid hB
    have k2 := iweight_any x
    have k3 := sweight_any x
    have hle := weight_less x
    have k4 := iweight_any ⟨x.t, x.a, -1, zeroV, x.l, x.g⟩
    have k5 := iweight_any ⟨-1, x.a, -1, zeroV, x.l, x.g⟩
    clear hB
    generalize weightV x = v at k2 k3 hle
    generalize weightV ⟨x.t, x.a, -1, zeroV, x.l, x.g⟩ = v1 at k4 hle
    generalize weightV ⟨-1, x.a, -1, zeroV, x.l, x.g⟩ = v2 at k5 hle
    have K2 := Lib.hid k2
    have K3 := Lib.hid k3
    have K4 := Lib.hid k4
    have K5 := Lib.hid k5
    clear k2 k3 k4 k5
    obtain ⟨t, a, nm, ⟨vk, vn, vs⟩, l, g⟩ := x
    dsimp only [zeroV] at K2 K3 K4 K5 ⊢
    have hB0 := HB1.out.alloc HB1.out.size (.cells #[.int .i64 t, .int .i64 a, .int .i64 nm, .int .i64 vk, .int .i64 vn, .string vs, .int .i64 l, .int .i64 g] 37)
    have HB0 := Lib.hid hB0
    clear hB0
    go_wp2_with fail
    refine (K2.out _).mono ?_
    rintro e w2 ⟨rfl, hb⟩
    have q0 : w2.cell? ⟨w1.heap.size, 0, none⟩ = some (.int .i64 t) := (hb.cell (p := ⟨w1.heap.size, 0, none⟩) (by simp)).trans (by go_simp)
    have q1 : w2.cell? ⟨w1.heap.size, 1, none⟩ = some (.int .i64 a) := (hb.cell (p := ⟨w1.heap.size, 1, none⟩) (by simp)).trans (by go_simp)
    have q2 : w2.cell? ⟨w1.heap.size, 2, none⟩ = some (.int .i64 nm) := (hb.cell (p := ⟨w1.heap.size, 2, none⟩) (by simp)).trans (by go_simp)
    have q3 : w2.cell? ⟨w1.heap.size, 3, none⟩ = some (.int .i64 vk) := (hb.cell (p := ⟨w1.heap.size, 3, none⟩) (by simp)).trans (by go_simp)
    have q4 : w2.cell? ⟨w1.heap.size, 4, none⟩ = some (.int .i64 vn) := (hb.cell (p := ⟨w1.heap.size, 4, none⟩) (by simp)).trans (by go_simp)
    have q5 : w2.cell? ⟨w1.heap.size, 5, none⟩ = some (.string vs) := (hb.cell (p := ⟨w1.heap.size, 5, none⟩) (by simp)).trans (by go_simp)
    have q6 : w2.cell? ⟨w1.heap.size, 6, none⟩ = some (.int .i64 l) := (hb.cell (p := ⟨w1.heap.size, 6, none⟩) (by simp)).trans (by go_simp)
    have q7 : w2.cell? ⟨w1.heap.size, 7, none⟩ = some (.int .i64 g) := (hb.cell (p := ⟨w1.heap.size, 7, none⟩) (by simp)).trans (by go_simp)
    have hz2 : w1.heap.size < w2.heap.size := by have := hb.size; simp at this; omega
    have HB2 := Lib.hid (more HB0.out (Nat.le_refl _) hb)
    clear hb
    go_wp2_with fail
    refine (K3.out _).mono ?_
    rintro e w3 ⟨rfl, hb⟩
    replace q0 := (hb.cell (p := ⟨w1.heap.size, 0, none⟩) (by simp; omega)).trans q0
    replace q1 := (hb.cell (p := ⟨w1.heap.size, 1, none⟩) (by simp; omega)).trans q1
    replace q2 := (hb.cell (p := ⟨w1.heap.size, 2, none⟩) (by simp; omega)).trans q2
    replace q3 := (hb.cell (p := ⟨w1.heap.size, 3, none⟩) (by simp; omega)).trans q3
    replace q4 := (hb.cell (p := ⟨w1.heap.size, 4, none⟩) (by simp; omega)).trans q4
    replace q5 := (hb.cell (p := ⟨w1.heap.size, 5, none⟩) (by simp; omega)).trans q5
    replace q6 := (hb.cell (p := ⟨w1.heap.size, 6, none⟩) (by simp; omega)).trans q6
    replace q7 := (hb.cell (p := ⟨w1.heap.size, 7, none⟩) (by simp; omega)).trans q7
    have hz3 : w1.heap.size < w3.heap.size := by have := hb.size; omega
    have HB3 := Lib.hid (more HB2.out (Nat.le_refl _) hb)
    clear hb
    rcases hle with hlt | ⟨h0, h1, h2⟩
    · go_wp2_with fail
      go_ret
      exact ⟨rfl, HB3.out⟩
    have h0' : ¬ v < 0 := by omega
    have hd1 : decide (v1 ≤ v) = true := by simpa using h1
    have hd2 : decide (v2 ≤ v1) = true := by simpa using h2
    have HH := Lib.hid (And.intro h1 h2)
    clear h1 h2
    go_wp2_with fail
    have hB4 := Lib.hid ((HB3.out.alloc HB3.out.size (.cells #[.int .i64 t, .int .i64 a, .int .i64 (-1), .int .i64 0, .int .i64 0, .string ⟨#[]⟩, .int .i64 l, .int .i64 g] 37)).alloc (by have := HB3.out.size; simp; omega) (.cells #[.int .i64 (-1), .int .i64 a, .int .i64 (-1), .int .i64 0, .int .i64 0, .string ⟨#[]⟩, .int .i64 l, .int .i64 g] 37))
    have y0 : ((w3.alloc (.cells #[.int .i64 t, .int .i64 a, .int .i64 (-1), .int .i64 0, .int .i64 0, .string ⟨#[]⟩, .int .i64 l, .int .i64 g] 37)).alloc (.cells #[.int .i64 (-1), .int .i64 a, .int .i64 (-1), .int .i64 0, .int .i64 0, .string ⟨#[]⟩, .int .i64 l, .int .i64 g] 37)).cell? ⟨w3.heap.size, 0, none⟩ = some (.int .i64 t) := by go_simp
    have z0 : ((w3.alloc (.cells #[.int .i64 t, .int .i64 a, .int .i64 (-1), .int .i64 0, .int .i64 0, .string ⟨#[]⟩, .int .i64 l, .int .i64 g] 37)).alloc (.cells #[.int .i64 (-1), .int .i64 a, .int .i64 (-1), .int .i64 0, .int .i64 0, .string ⟨#[]⟩, .int .i64 l, .int .i64 g] 37)).cell? ⟨w3.heap.size + 1, 0, none⟩ = some (.int .i64 (-1)) := by go_simp
    have y1 : ((w3.alloc (.cells #[.int .i64 t, .int .i64 a, .int .i64 (-1), .int .i64 0, .int .i64 0, .string ⟨#[]⟩, .int .i64 l, .int .i64 g] 37)).alloc (.cells #[.int .i64 (-1), .int .i64 a, .int .i64 (-1), .int .i64 0, .int .i64 0, .string ⟨#[]⟩, .int .i64 l, .int .i64 g] 37)).cell? ⟨w3.heap.size, 1, none⟩ = some (.int .i64 a) := by go_simp
    have z1 : ((w3.alloc (.cells #[.int .i64 t, .int .i64 a, .int .i64 (-1), .int .i64 0, .int .i64 0, .string ⟨#[]⟩, .int .i64 l, .int .i64 g] 37)).alloc (.cells #[.int .i64 (-1), .int .i64 a, .int .i64 (-1), .int .i64 0, .int .i64 0, .string ⟨#[]⟩, .int .i64 l, .int .i64 g] 37)).cell? ⟨w3.heap.size + 1, 1, none⟩ = some (.int .i64 a) := by go_simp
    have y2 : ((w3.alloc (.cells #[.int .i64 t, .int .i64 a, .int .i64 (-1), .int .i64 0, .int .i64 0, .string ⟨#[]⟩, .int .i64 l, .int .i64 g] 37)).alloc (.cells #[.int .i64 (-1), .int .i64 a, .int .i64 (-1), .int .i64 0, .int .i64 0, .string ⟨#[]⟩, .int .i64 l, .int .i64 g] 37)).cell? ⟨w3.heap.size, 2, none⟩ = some (.int .i64 (-1)) := by go_simp
    have z2 : ((w3.alloc (.cells #[.int .i64 t, .int .i64 a, .int .i64 (-1), .int .i64 0, .int .i64 0, .string ⟨#[]⟩, .int .i64 l, .int .i64 g] 37)).alloc (.cells #[.int .i64 (-1), .int .i64 a, .int .i64 (-1), .int .i64 0, .int .i64 0, .string ⟨#[]⟩, .int .i64 l, .int .i64 g] 37)).cell? ⟨w3.heap.size + 1, 2, none⟩ = some (.int .i64 (-1)) := by go_simp
    have y3 : ((w3.alloc (.cells #[.int .i64 t, .int .i64 a, .int .i64 (-1), .int .i64 0, .int .i64 0, .string ⟨#[]⟩, .int .i64 l, .int .i64 g] 37)).alloc (.cells #[.int .i64 (-1), .int .i64 a, .int .i64 (-1), .int .i64 0, .int .i64 0, .string ⟨#[]⟩, .int .i64 l, .int .i64 g] 37)).cell? ⟨w3.heap.size, 3, none⟩ = some (.int .i64 0) := by go_simp
    have z3 : ((w3.alloc (.cells #[.int .i64 t, .int .i64 a, .int .i64 (-1), .int .i64 0, .int .i64 0, .string ⟨#[]⟩, .int .i64 l, .int .i64 g] 37)).alloc (.cells #[.int .i64 (-1), .int .i64 a, .int .i64 (-1), .int .i64 0, .int .i64 0, .string ⟨#[]⟩, .int .i64 l, .int .i64 g] 37)).cell? ⟨w3.heap.size + 1, 3, none⟩ = some (.int .i64 0) := by go_simp
    have y4 : ((w3.alloc (.cells #[.int .i64 t, .int .i64 a, .int .i64 (-1), .int .i64 0, .int .i64 0, .string ⟨#[]⟩, .int .i64 l, .int .i64 g] 37)).alloc (.cells #[.int .i64 (-1), .int .i64 a, .int .i64 (-1), .int .i64 0, .int .i64 0, .string ⟨#[]⟩, .int .i64 l, .int .i64 g] 37)).cell? ⟨w3.heap.size, 4, none⟩ = some (.int .i64 0) := by go_simp
    have z4 : ((w3.alloc (.cells #[.int .i64 t, .int .i64 a, .int .i64 (-1), .int .i64 0, .int .i64 0, .string ⟨#[]⟩, .int .i64 l, .int .i64 g] 37)).alloc (.cells #[.int .i64 (-1), .int .i64 a, .int .i64 (-1), .int .i64 0, .int .i64 0, .string ⟨#[]⟩, .int .i64 l, .int .i64 g] 37)).cell? ⟨w3.heap.size + 1, 4, none⟩ = some (.int .i64 0) := by go_simp
    have y5 : ((w3.alloc (.cells #[.int .i64 t, .int .i64 a, .int .i64 (-1), .int .i64 0, .int .i64 0, .string ⟨#[]⟩, .int .i64 l, .int .i64 g] 37)).alloc (.cells #[.int .i64 (-1), .int .i64 a, .int .i64 (-1), .int .i64 0, .int .i64 0, .string ⟨#[]⟩, .int .i64 l, .int .i64 g] 37)).cell? ⟨w3.heap.size, 5, none⟩ = some (.string ⟨#[]⟩) := by go_simp
    have z5 : ((w3.alloc (.cells #[.int .i64 t, .int .i64 a, .int .i64 (-1), .int .i64 0, .int .i64 0, .string ⟨#[]⟩, .int .i64 l, .int .i64 g] 37)).alloc (.cells #[.int .i64 (-1), .int .i64 a, .int .i64 (-1), .int .i64 0, .int .i64 0, .string ⟨#[]⟩, .int .i64 l, .int .i64 g] 37)).cell? ⟨w3.heap.size + 1, 5, none⟩ = some (.string ⟨#[]⟩) := by go_simp
    have y6 : ((w3.alloc (.cells #[.int .i64 t, .int .i64 a, .int .i64 (-1), .int .i64 0, .int .i64 0, .string ⟨#[]⟩, .int .i64 l, .int .i64 g] 37)).alloc (.cells #[.int .i64 (-1), .int .i64 a, .int .i64 (-1), .int .i64 0, .int .i64 0, .string ⟨#[]⟩, .int .i64 l, .int .i64 g] 37)).cell? ⟨w3.heap.size, 6, none⟩ = some (.int .i64 l) := by go_simp
    have z6 : ((w3.alloc (.cells #[.int .i64 t, .int .i64 a, .int .i64 (-1), .int .i64 0, .int .i64 0, .string ⟨#[]⟩, .int .i64 l, .int .i64 g] 37)).alloc (.cells #[.int .i64 (-1), .int .i64 a, .int .i64 (-1), .int .i64 0, .int .i64 0, .string ⟨#[]⟩, .int .i64 l, .int .i64 g] 37)).cell? ⟨w3.heap.size + 1, 6, none⟩ = some (.int .i64 l) := by go_simp
    have y7 : ((w3.alloc (.cells #[.int .i64 t, .int .i64 a, .int .i64 (-1), .int .i64 0, .int .i64 0, .string ⟨#[]⟩, .int .i64 l, .int .i64 g] 37)).alloc (.cells #[.int .i64 (-1), .int .i64 a, .int .i64 (-1), .int .i64 0, .int .i64 0, .string ⟨#[]⟩, .int .i64 l, .int .i64 g] 37)).cell? ⟨w3.heap.size, 7, none⟩ = some (.int .i64 g) := by go_simp
    have z7 : ((w3.alloc (.cells #[.int .i64 t, .int .i64 a, .int .i64 (-1), .int .i64 0, .int .i64 0, .string ⟨#[]⟩, .int .i64 l, .int .i64 g] 37)).alloc (.cells #[.int .i64 (-1), .int .i64 a, .int .i64 (-1), .int .i64 0, .int .i64 0, .string ⟨#[]⟩, .int .i64 l, .int .i64 g] 37)).cell? ⟨w3.heap.size + 1, 7, none⟩ = some (.int .i64 g) := by go_simp
    have hzs : w3.heap.size + 1 < ((w3.alloc (.cells #[.int .i64 t, .int .i64 a, .int .i64 (-1), .int .i64 0, .int .i64 0, .string ⟨#[]⟩, .int .i64 l, .int .i64 g] 37)).alloc (.cells #[.int .i64 (-1), .int .i64 a, .int .i64 (-1), .int .i64 0, .int .i64 0, .string ⟨#[]⟩, .int .i64 l, .int .i64 g] 37)).heap.size := by simp
    obtain ⟨ws, hws⟩ : ∃ ws, ((w3.alloc (.cells #[.int .i64 t, .int .i64 a, .int .i64 (-1), .int .i64 0, .int .i64 0, .string ⟨#[]⟩, .int .i64 l, .int .i64 g] 37)).alloc (.cells #[.int .i64 (-1), .int .i64 a, .int .i64 (-1), .int .i64 0, .int .i64 0, .string ⟨#[]⟩, .int .i64 l, .int .i64 g] 37)) = ws := ⟨_, rfl⟩
    rw [hws] at hB4 hzs y0 z0 y1 z1 y2 z2 y3 z3 y4 z4 y5 z5 y6 z6 y7 z7 ⊢
    have hB := hB4.out
    clear hws hB4 q0 q1 q2 q3 q4 q5 q6 q7 HB3 HB2 HB0 HB1
    go_region_held3 (fun w' => w'.cell? ⟨w3.heap.size, 0, none⟩ = some (.int .i64 t) ∧ w'.cell? ⟨w3.heap.size, 1, none⟩ = some (.int .i64 a) ∧ w'.cell? ⟨w3.heap.size, 2, none⟩ = some (.int .i64 (-1)) ∧ w'.cell? ⟨w3.heap.size, 3, none⟩ = some (.int .i64 0) ∧ w'.cell? ⟨w3.heap.size, 4, none⟩ = some (.int .i64 0) ∧ w'.cell? ⟨w3.heap.size, 5, none⟩ = some (.string ⟨#[]⟩) ∧ w'.cell? ⟨w3.heap.size, 6, none⟩ = some (.int .i64 l) ∧ w'.cell? ⟨w3.heap.size, 7, none⟩ = some (.int .i64 g) ∧ w'.cell? ⟨w3.heap.size + 1, 0, none⟩ = some (.int .i64 (-1)) ∧ w'.cell? ⟨w3.heap.size + 1, 1, none⟩ = some (.int .i64 a) ∧ w'.cell? ⟨w3.heap.size + 1, 2, none⟩ = some (.int .i64 (-1)) ∧ w'.cell? ⟨w3.heap.size + 1, 3, none⟩ = some (.int .i64 0) ∧ w'.cell? ⟨w3.heap.size + 1, 4, none⟩ = some (.int .i64 0) ∧ w'.cell? ⟨w3.heap.size + 1, 5, none⟩ = some (.string ⟨#[]⟩) ∧ w'.cell? ⟨w3.heap.size + 1, 6, none⟩ = some (.int .i64 l) ∧ w'.cell? ⟨w3.heap.size + 1, 7, none⟩ = some (.int .i64 g)) (go_keep) (first | (go_at_call 15; ((with_reducible refine (K4.out _).mono ?_); rintro e w' ⟨rfl, hb⟩); replace y0 := (hb.cell (p := ⟨w3.heap.size, 0, none⟩) (by simp; omega)).trans y0; replace z0 := (hb.cell (p := ⟨w3.heap.size + 1, 0, none⟩) (by simp; omega)).trans z0; replace y1 := (hb.cell (p := ⟨w3.heap.size, 1, none⟩) (by simp; omega)).trans y1; replace z1 := (hb.cell (p := ⟨w3.heap.size + 1, 1, none⟩) (by simp; omega)).trans z1; replace y2 := (hb.cell (p := ⟨w3.heap.size, 2, none⟩) (by simp; omega)).trans y2; replace z2 := (hb.cell (p := ⟨w3.heap.size + 1, 2, none⟩) (by simp; omega)).trans z2; replace y3 := (hb.cell (p := ⟨w3.heap.size, 3, none⟩) (by simp; omega)).trans y3; replace z3 := (hb.cell (p := ⟨w3.heap.size + 1, 3, none⟩) (by simp; omega)).trans z3; replace y4 := (hb.cell (p := ⟨w3.heap.size, 4, none⟩) (by simp; omega)).trans y4; replace z4 := (hb.cell (p := ⟨w3.heap.size + 1, 4, none⟩) (by simp; omega)).trans z4; replace y5 := (hb.cell (p := ⟨w3.heap.size, 5, none⟩) (by simp; omega)).trans y5; replace z5 := (hb.cell (p := ⟨w3.heap.size + 1, 5, none⟩) (by simp; omega)).trans z5; replace y6 := (hb.cell (p := ⟨w3.heap.size, 6, none⟩) (by simp; omega)).trans y6; replace z6 := (hb.cell (p := ⟨w3.heap.size + 1, 6, none⟩) (by simp; omega)).trans z6; replace y7 := (hb.cell (p := ⟨w3.heap.size, 7, none⟩) (by simp; omega)).trans y7; replace z7 := (hb.cell (p := ⟨w3.heap.size + 1, 7, none⟩) (by simp; omega)).trans z7; replace hB := more (W1 := _) (B := w.heap.size) (W0 := w) (by go_grown) (Nat.le_refl _) hb; replace hzs := Nat.lt_of_lt_of_le hzs (hb.size); clear hb) | (go_at_call 15; ((with_reducible refine (K5.out _).mono ?_); rintro e w' ⟨rfl, hb⟩); replace y0 := (hb.cell (p := ⟨w3.heap.size, 0, none⟩) (by simp; omega)).trans y0; replace z0 := (hb.cell (p := ⟨w3.heap.size + 1, 0, none⟩) (by simp; omega)).trans z0; replace y1 := (hb.cell (p := ⟨w3.heap.size, 1, none⟩) (by simp; omega)).trans y1; replace z1 := (hb.cell (p := ⟨w3.heap.size + 1, 1, none⟩) (by simp; omega)).trans z1; replace y2 := (hb.cell (p := ⟨w3.heap.size, 2, none⟩) (by simp; omega)).trans y2; replace z2 := (hb.cell (p := ⟨w3.heap.size + 1, 2, none⟩) (by simp; omega)).trans z2; replace y3 := (hb.cell (p := ⟨w3.heap.size, 3, none⟩) (by simp; omega)).trans y3; replace z3 := (hb.cell (p := ⟨w3.heap.size + 1, 3, none⟩) (by simp; omega)).trans z3; replace y4 := (hb.cell (p := ⟨w3.heap.size, 4, none⟩) (by simp; omega)).trans y4; replace z4 := (hb.cell (p := ⟨w3.heap.size + 1, 4, none⟩) (by simp; omega)).trans z4; replace y5 := (hb.cell (p := ⟨w3.heap.size, 5, none⟩) (by simp; omega)).trans y5; replace z5 := (hb.cell (p := ⟨w3.heap.size + 1, 5, none⟩) (by simp; omega)).trans z5; replace y6 := (hb.cell (p := ⟨w3.heap.size, 6, none⟩) (by simp; omega)).trans y6; replace z6 := (hb.cell (p := ⟨w3.heap.size + 1, 6, none⟩) (by simp; omega)).trans z6; replace y7 := (hb.cell (p := ⟨w3.heap.size, 7, none⟩) (by simp; omega)).trans y7; replace z7 := (hb.cell (p := ⟨w3.heap.size + 1, 7, none⟩) (by simp; omega)).trans z7; replace hB := more (W1 := _) (B := w.heap.size) (W0 := w) (by go_grown) (Nat.le_refl _) hb; replace hzs := Nat.lt_of_lt_of_le hzs (hb.size); clear hb))
    go_wp2_with fail
    go_ret
    exact ⟨rfl, hB⟩

set_option maxRecDepth 100000 in
theorem contract (H : Type) (enc : TypeId × Value → H) (W : World) (base : Nat) (args : Array Value) (ds gs : List (DataW H)) (before : List MemPlace)
    (hval : ∀ (j : Nat) t v, Try.f6.params[j]? = some t → args[j]? = some v → Value.okWide Try.prog W .any base t v)
    (hW : DataW.Whole enc Try.prog Try.f6.params.toList Rows.fnRuleWeightSpec.vars false W args.toList ds gs before) :
    Calls Try.prog 6 args W fun e W' => ∃ v, e = .returned v ∧ Rows.fnRuleWeightSpec.post enc Try.prog Try.f6 false true false false W args v W' := by
  have hW' := hW
  obtain ⟨p, q, hA0, hV, rfl, hfz, hnd⟩ := hW
  have hA : DataW.TrodAll enc Try.prog W 0 (fun _ => true) true Try.f6.params.toList args.toList ds p := hA0
  rw [Try.params6] at hA hval
  obtain ⟨v0, vs0, d0, ds0, p0, q0, hargs, rfl, rfl, h0, r0⟩ := trodAll_cons hA
  obtain ⟨rfl, rfl, rfl⟩ := trodAll_nil r0
  obtain rfl : args = #[v0] := by cases args; simp_all
  obtain ⟨rfl, rfl⟩ := trodVars_none hV
  obtain ⟨A0, l0, c0, rfl, hs0, hc0⟩ := open_bytes (hval 0 _ v0 rfl rfl) h0 (fun x hx => by simpa using hW'.lt x (by simp [hx]))
  exact (walk A0 l0 c0 W hc0 hs0).mono fun e W' ⟨he, hB⟩ => ⟨_, he, law_post rfl rfl hW' laidOut (of_decide_eq_true (by kernel_rfl)) rfl Try.underlying4 hB⟩

set_option maxRecDepth 100000 in
theorem lifted (os : Os) (started : os.Started) (H : Type) (enc : TypeId × Value → H) :
    ReturnsInHanded {} Try.checked os 6 .any (Rows.fnRuleWeightSpec.pre6 enc Try.prog Try.f6 Rows.fnRuleWeightRow.domain false) (Rows.fnRuleWeightSpec.post enc Try.prog Try.f6 false true false false) := by
  refine returnsInHanded_of_change (C := Try.checked) own started (by kernel_rfl) Try.func6
    (ChangeSpec.witness6 (enc := enc) (C := Try.checked) false ⟨#[], #[.slice none 0 0], []⟩ 8 (by kernel_rfl) (by kernel_rfl) (by kernel_rfl) (by kernel_rfl)) ?_
  intro W base args ds gs before hval hW _ _
  exact contract H enc W base args ds gs before hval hW

set_option maxRecDepth 100000 in
theorem proved : Rows.FnRuleWeightSaid :=
  OpenClaim.holds_of_wide 6 Try.f6 rfl rfl rfl rfl rfl rfl rfl ⟨rfl, rfl, rfl, rfl, rfl⟩ rfl rfl rfl rfl rfl (by kernel_rfl) Try.func6 (by kernel_rfl)
    (of_decide_eq_true (by kernel_rfl)) (by unfold Func.isWrapper; first | (rw [if_pos (by decide +kernel)]; kernel_rfl) | (rw [if_neg (by decide +kernel)]; exact ⟨rfl, rfl⟩))
    (fun os started H enc _ => lifted os started H enc)
end Go.Proofs.Ytejlhgancbppkaa.fnRuleWeight
