/- A pick of more than 256. -/
import Derived.Test.YtagaaeolgecdmaaGreatDoorDraw
namespace Go.Proofs.YtagaaeolgecdmaaGreatDoor
open Go.Joins Go.ChangeShapes Go.WideShapes Go.ChangeAt Go.RowKit Go.Deep
set_option linter.unusedVariables false
set_option linter.unusedSimpArgs false

theorem src_step2 {w : World} {g : Nat} {v : Value} {p l p' p'' l' : Int} (h : w.heap[g]? = some (.cells #[v, .int .i64 p, .int .i64 l] 112 (0, 0))) (nq nr : Nat) :
    (((((w.setCell ⟨g, 2, none⟩ (.int .i64 l')).drewN nq).setCell ⟨g, 1, none⟩ (.int .i64 p')).drewN nr).setCell ⟨g, 1, none⟩ (.int .i64 p'')).heap[g]? = some (.cells #[v, .int .i64 p'', .int .i64 l'] 112 (0, 0)) :=
  set_block (w := (((w.setCell ⟨g, 2, none⟩ (.int .i64 l')).drewN nq).setCell ⟨g, 1, none⟩ (.int .i64 p')).drewN nr) (cs := #[v, .int .i64 p', .int .i64 l']) (src_step h nq) 1 _
set_option maxHeartbeats 1000000 in
theorem pick_big (g : Nat) (A : Option Addr) (len cap : Nat) (n : Int) (w : World) (hs0 : St g A len cap w) (hn1 : 256 < n) (hn2 : n ≤ 1000000) :
    Calls Tryz.prog 52 #[.pointer (some ⟨g, 0, none⟩), .int .i64 n] w (Picked g A len cap n w) := by
  have HS := Lib.hid hs0
  obtain ⟨⟨p, l, hs⟩, hc, hlen⟩ := hs0
  unfold maxLen at hlen
  obtain ⟨c0, c1, c2, cf⟩ := src_cell hs
  obtain ⟨hb, hp, hl, hpl⟩ := hs
  have HB := Lib.hid hb
  clear hb
  have d1 : decide (n ≤ 1) = false := by simp; omega
  by_cases l0 : l ≤ 0
  · go_enter Tryz.func52, Tryz.ntmps52
    go_wp2_with fail
    go_ret
    exact ⟨0, rfl, by omega, .inr rfl, HS.out, Keep.refl _ _ _⟩
  · have d2 : decide (l ≤ 0) = false := by simp; omega
    by_cases hlen0 : len = 0
    · subst hlen0
      go_enter Tryz.func52, Tryz.ntmps52
      go_wp2_with fail
      go_ret
      exact ⟨0, rfl, by omega, .inr rfl, HS.out, Keep.refl _ _ _⟩
    · obtain ⟨b, off, rfl, hbg, hcells⟩ := hc (by omega)
      have HC := Lib.hid hc
      clear hc
      have d3 : ((len : Int) == 0) = false := by simp; omega
      have m0 : 0 ≤ p % len := Int.emod_nonneg _ (by omega)
      have m1 : p % len < len := Int.emod_lt_of_pos _ (by omega)
      obtain ⟨c, k0, k1, hcc⟩ := hcells (p % len).toNat (by omega)
      have m2 : 0 ≤ (p + 1) % len := Int.emod_nonneg _ (by omega)
      have m3 : (p + 1) % len < len := Int.emod_lt_of_pos _ (by omega)
      obtain ⟨c', k2, k3, hcc2⟩ := hcells ((p + 1) % len).toNat (by omega)
      have q0 : 0 ≤ p / len := Int.ediv_nonneg hp (by omega)
      have q1 : p / len ≤ 8000 := by
        have := Int.ediv_le_self len hp
        omega
      have w1 : IntKind.i64.wrap (p / len * 31) = p / len * 31 := IntWalk.i64_in _ (by omega)
      have w2 : IntKind.i64.wrap (c + p / len * 31) = c + p / len * 31 := IntWalk.i64_in _ (by omega)
      have w3 : IntKind.i64.wrap ((c + p / len * 31) * 256) = (c + p / len * 31) * 256 := IntWalk.i64_in _ (by omega)
      have w4 : IntKind.i64.wrap ((c + p / len * 31) * 256 + c') = (c + p / len * 31) * 256 + c' := IntWalk.i64_in _ (by omega)
      have d4 : decide (256 < n) = true := by simpa using hn1
      go_enter Tryz.func52, Tryz.ntmps52
      go_wp2_with fail
      go_quiet (fail)
      generalize nq = nqa
      go_wp2_with fail
      go_quiet (fail)
      go_wp2_with fail
      go_ret
      have hk := (((((Keep.refl g w.heap.size w).set_ (p := ⟨g, 2, none⟩) (.inl rfl) (.int .i64 (l - 1))).drewN nqa).set_ (p := ⟨g, 1, none⟩) (.inl rfl) (.int .i64 (p + 1))).drewN nq).set_ (p := ⟨g, 1, none⟩) (.inl rfl) (.int .i64 (p + 1 + 1))
      refine ⟨((c + p / len * 31) * 256 + c') % n, rfl, Int.emod_nonneg _ (by omega), .inl (Int.emod_lt_of_pos _ (by omega)), ⟨⟨p + 1 + 1, l - 1, src_step2 HB.out nqa nq, by omega, by omega, by omega⟩, ?_, ?_⟩, hk⟩
      · exact HC.out.of_block fun k hk' => hk.block k (by have := HS.out.lt; omega) (by omega)
      · unfold maxLen; omega
end Go.Proofs.YtagaaeolgecdmaaGreatDoor
