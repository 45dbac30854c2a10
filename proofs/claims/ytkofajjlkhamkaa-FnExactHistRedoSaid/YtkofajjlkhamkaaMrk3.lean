/- The laws' own marks, found again. -/
import Derived.Test.YtkofajjlkhamkaaMrk2
import Derived.Deep.RegionHeld3
namespace Go.Proofs.Ytkofajjlkhamkaa
open Go.Joins Go.ChangeShapes Go.WideShapes Go.ChangeAt Go.RowKit Go.Deep
set_option linter.unusedVariables false
set_option linter.unusedSimpArgs false

set_option maxHeartbeats 1000000 in
theorem heldSlots_any (A : Option Addr) (c k n : Nat) (xs : List Sl) (w : World) (hx : SlL w A (markSl xs k)) (hn : xs.length = n) (hl : n ≤ 1048576) (hk : k ≤ 50000000) :
    Calls Try.prog 44 #[.slice A n c, .int .i64 k] w fun e w' => e = .returned (.int .i64 (k + 2 * n : Nat)) ∧ w = w' := by
  have HN := Lib.hid hn
  have HX := Lib.hid hx
  clear hn hx
  go_enter Try.func44, Try.ntmps44
  go_wp2_with fail
  go_loop [1, 5] (fun m i => ∃ j : Nat, j ≤ n ∧ i = .int .i64 j ∧ m = .int .i64 (k + 2 * j : Nat)) (fun _ i => n - (intOf i).toNat)
  case atStart => exact ⟨0, by omega, rfl, rfl⟩
  case round =>
    obtain ⟨j, hj, rfl, rfl⟩ := hrel
    by_cases hlt : j < n
    · obtain ⟨b, off, rfl, hblt, hcell⟩ := SlL.at_ HX.out (by rw [markSl_len, HN.out]; omega)
      obtain ⟨c0, c1⟩ := hcell j _ (markSl_at xs k j (by rw [HN.out]; exact hlt))
      obtain ⟨q, hq⟩ : ∃ q : Nat, q = k + 2 * j := ⟨_, rfl⟩
      have HQ := Lib.hid hq
      have hqb : q ≤ 60000000 := by omega
      dsimp only at c0 c1
      rw [← hq] at c0 c1 ⊢
      clear hcell hq
      go_wp2_with fail
      go_round
      case rel => exact ⟨j + 1, by omega, by go_num, by rw [HQ.out]; go_num⟩
      case measure => simp [intOf]; omega
    · obtain rfl : j = n := by omega
      go_wp2_with fail
      go_ret
      exact ⟨rfl, rfl⟩

set_option maxHeartbeats 2000000 in
theorem heldVals_any (A : Option Addr) (c k n : Nat) (xs : List Va) (w : World) (hx : VaL w A (markVa xs k)) (hn : xs.length = n) (hl : n ≤ 1048576) (hk : k ≤ 50000000) (hk0 : 0 < k) :
    Calls Try.prog 45 #[.slice A n c, .int .i64 k] w fun e w' => e = .returned (.int .i64 (k + 3 * n : Nat)) ∧ Below w.heap.size w w' := by
  have HN := Lib.hid hn
  have HX := Lib.hid hx
  clear hn hx
  go_enter Try.func45, Try.ntmps45
  go_wp2_with fail
  go_loopw [1, 5] (fun m i wr => ∃ j : Nat, j ≤ n ∧ i = .int .i64 j ∧ m = .int .i64 (k + 3 * j : Nat) ∧ Below w.heap.size w wr) (fun _ i _ => n - (intOf i).toNat)
  case atStart => exact ⟨0, by omega, rfl, rfl, by go_grown⟩
  case round =>
    obtain ⟨j, hj, rfl, rfl, hB⟩ := hrel
    by_cases hlt : j < n
    · obtain ⟨b, off, rfl, hblt, hcell⟩ := VaL.at_ (HX.out.below hB) (by rw [markVa_len, HN.out]; omega)
      obtain ⟨c0, c1, c2⟩ := hcell j _ (markVa_at xs k j (by rw [HN.out]; exact hlt))
      obtain ⟨q, hq⟩ : ∃ q : Nat, q = k + 3 * j := ⟨_, rfl⟩
      have HQ := Lib.hid hq
      have hqb : q ≤ 60000000 := by omega
      have hq0 : 0 < q := by omega
      dsimp only at c0 c1 c2
      rw [← hq] at c0 c1 c2 ⊢
      have hi1 : (0 : Int) ≤ (j : Int) := by omega
      have hi2 : (j : Int) < (n : Int) := by omega
      have K := Lib.hid (fun w => markText_any (q + 2) w (by omega) (by omega))
      clear hcell hq
      go_wp2_with fail
      go_region_held3 (fun w' => w'.cell? ⟨b, off + j * 3 + 2, none⟩ = some (.string (markB (q + 2)))) (go_keep) (first | (go_at_call 64; refine (K.out _).mono ?_; rintro e w' ⟨rfl, hb⟩; replace c2 := (hb.cell (p := ⟨b, off + j * 3 + 2, none⟩) hblt).trans c2; replace hB := more (W1 := _) (B := w.heap.size) (W0 := w) (by go_grown) (Nat.le_refl _) hb; clear hb))
      go_wp2_with fail
      go_roundw
      case rel => exact ⟨j + 1, by omega, by go_num, by rw [HQ.out]; go_num, hB⟩
      case measure => simp [intOf]; omega
    · obtain rfl : j = n := by omega
      go_wp2_with fail
      go_ret
      exact ⟨rfl, hB⟩
end Go.Proofs.Ytkofajjlkhamkaa
