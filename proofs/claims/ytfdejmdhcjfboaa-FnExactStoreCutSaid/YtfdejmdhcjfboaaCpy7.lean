/- The law's own comparison of states: equal ones. -/
import Derived.Test.YtfdejmdhcjfboaaCpy6
namespace Go.Proofs.Ytfdejmdhcjfboaa
open Go.Joins Go.ChangeShapes Go.WideShapes Go.ChangeAt Go.RowKit Go.Deep
set_option linter.unusedVariables false
set_option linter.unusedSimpArgs false

set_option maxHeartbeats 1000000 in
theorem sameValues_eq (A A' : Option Addr) (c c' n : Nat) (xs : List Va) (w : World) (hx : VaL w A xs) (hy : VaL w A' xs) (hn : xs.length = n) (hl : n ≤ maxLen) :
    Calls Try.prog 91 #[.slice A n c, .slice A' n c'] w fun e w' => e = .returned (.bool true) ∧ Below w.heap.size w w' := by
  unfold maxLen at hl
  have HN := Lib.hid hn
  have HX := Lib.hid hx
  have HY := Lib.hid hy
  clear hx hy hn
  go_enter Try.func91, Try.ntmps91
  go_wp2_with fail
  go_loopw [5] (fun i w2 => ∃ k : Nat, k ≤ n ∧ i = .int .i64 k ∧ Below w.heap.size w w2) (fun i _ => n - (intOf i).toNat)
  case atStart => exact ⟨0, by omega, rfl, by go_grown⟩
  case round =>
    obtain ⟨k, hk, rfl, hB⟩ := hrel
    by_cases hlt : k < n
    · obtain ⟨b, off, rfl, hblt, hcell⟩ := VaL.at_ (HX.out.below hB) (by have := HN.out; omega)
      obtain ⟨b', off', rfl, hblt', hcell'⟩ := VaL.at_ (HY.out.below hB) (by have := HN.out; omega)
      obtain ⟨x, hx⟩ := at_some (show k < xs.length by rw [HN.out]; exact hlt)
      obtain ⟨c0, c1, c2⟩ := hcell k x hx
      obtain ⟨d0, d1, d2⟩ := hcell' k x hx
      have hi1 : (0 : Int) ≤ (k : Int) := by omega
      have hi2 : (k : Int) < (n : Int) := by omega
      clear hcell hx hcell'
      obtain ⟨p, q, s⟩ := x
      dsimp only at c0 c1 c2 d0 d1 d2
      go_wp2_with fail
      go_quiet (fail)
      go_wp2_with fail
      go_roundw
      case rel => exact ⟨k + 1, by omega, by go_num, drewN_below hB _⟩
      case measure => simp [intOf]; omega
    · go_wp2_with fail
      go_ret
      exact ⟨rfl, hB⟩
theorem sameVals_eq (A A' : Option Addr) (c c' n : Nat) (xs : List Va) (w : World) (hx : VaL w A xs) (hy : VaL w A' xs) (hn : xs.length = n) (hl : n ≤ maxLen) :
    Calls Try.prog 49 #[.slice A n c, .slice A' n c'] w fun e w' => e = .returned (.bool true) ∧ Below w.heap.size w w' := by
  have K := Lib.hid (sameValues_eq A A' c c' n xs w hx hy hn hl)
  clear hx hy hn hl
  go_enter Try.func49, Try.ntmps49
  go_wp2_with fail
  refine K.out.mono ?_
  rintro e w1 ⟨rfl, hb⟩
  go_wp2_with fail
  go_ret
  exact ⟨rfl, hb⟩
end Go.Proofs.Ytfdejmdhcjfboaa
