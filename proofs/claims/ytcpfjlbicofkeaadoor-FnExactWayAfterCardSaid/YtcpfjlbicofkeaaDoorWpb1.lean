/- Where a number stands; what a part has in common. -/
import Derived.Test.YtcpfjlbicofkeaaDoorNma1
namespace Go.Proofs.YtcpfjlbicofkeaaDoor
open Go.Joins Go.ChangeShapes Go.WideShapes Go.ChangeAt Go.RowKit Go.Deep
set_option linter.unusedVariables false
set_option linter.unusedSimpArgs false

set_option maxHeartbeats 1000000 in
theorem sindex_any (A : Option Addr) (c n : Nat) (zs : List Int) (z : Int) (w : World) (hx : IntL w A zs) (hn : zs.length = n) (hl : n ≤ maxLen) :
    Calls Tryd.prog 42 #[.slice A n c, .int .i64 z] w fun e w' => e = .returned (.int .i64 (idx zs z)) ∧ w' = w := by
  unfold maxLen at hl
  have HN := Lib.hid hn
  have HX := Lib.hid hx
  obtain ⟨I, hI⟩ : ∃ q, idx zs z = q := ⟨_, rfl⟩
  have HI := Lib.hid (show idxR (zs.drop 0) z 0 = I from hI)
  rw [hI]
  clear hx hn hI
  go_enter Tryd.func42, Tryd.ntmps42
  go_wp2_with fail
  go_loop [5] (fun i => ∃ k : Nat, k ≤ n ∧ i = .int .i64 k ∧ Hid (idxR (zs.drop k) z k = I)) (fun i => n - (intOf i).toNat)
  case atStart => exact ⟨0, by omega, rfl, HI⟩
  case round =>
    obtain ⟨k, hk, rfl, HE⟩ := hrel
    by_cases hlt : k < n
    · obtain ⟨x, hx⟩ := at_some (show k < zs.length by rw [HN.out]; exact hlt)
      obtain ⟨b, off, rfl, hblt, e0⟩ := HX.out.at_ hx
      have hE := HE.out
      rw [idxR_drop hx] at hE
      have hi1 : (0 : Int) ≤ (k : Int) := by omega
      have hi2 : (k : Int) < (n : Int) := by omega
      by_cases h : x = z
      · rw [if_pos h] at hE
        have HR := Lib.hid hE
        subst h
        clear hE hx HE
        go_wp2_with fail
        go_ret
        exact ⟨by rw [HR.out]; rfl, rfl⟩
      · rw [if_neg h] at hE
        have HR := Lib.hid hE
        have hq1 : (x == z) = false := by simpa using h
        have hq2 : (z == x) = false := by simpa using fun e => h e.symm
        have hq3 : ¬ z = x := fun e => h e.symm
        clear hE hx HE
        go_wp2_with fail
        go_round
        case rel => exact ⟨k + 1, by omega, by go_num, HR⟩
        case measure => simp [intOf]; omega
    · obtain rfl : k = n := by omega
      have hE := HE.out
      rw [List.drop_of_length_le (by rw [HN.out]; exact Nat.le_refl _)] at hE
      have HR := Lib.hid (show (-1 : Int) = I from hE)
      clear hE HE
      go_wp2_with fail
      go_ret
      exact ⟨by rw [← HR.out]; rfl, rfl⟩
set_option maxHeartbeats 1000000 in
theorem iindex_any (A : Option Addr) (c n : Nat) (zs : List Int) (z : Int) (w : World) (hx : IntL w A zs) (hn : zs.length = n) (hl : n ≤ maxLen) :
    Calls Tryd.prog 46 #[.slice A n c, .int .i64 z] w fun e w' => e = .returned (.int .i64 (idx zs z)) ∧ w' = w := by
  unfold maxLen at hl
  have HN := Lib.hid hn
  have HX := Lib.hid hx
  obtain ⟨I, hI⟩ : ∃ q, idx zs z = q := ⟨_, rfl⟩
  have HI := Lib.hid (show idxR (zs.drop 0) z 0 = I from hI)
  rw [hI]
  clear hx hn hI
  go_enter Tryd.func46, Tryd.ntmps46
  go_wp2_with fail
  go_loop [8] (fun i => ∃ k : Nat, k ≤ n ∧ i = .int .i64 k ∧ Hid (idxR (zs.drop k) z k = I)) (fun i => n - (intOf i).toNat)
  case atStart => exact ⟨0, by omega, rfl, HI⟩
  case round =>
    obtain ⟨k, hk, rfl, HE⟩ := hrel
    by_cases hlt : k < n
    · obtain ⟨x, hx⟩ := at_some (show k < zs.length by rw [HN.out]; exact hlt)
      obtain ⟨b, off, rfl, hblt, e0⟩ := HX.out.at_ hx
      have hE := HE.out
      rw [idxR_drop hx] at hE
      have hi1 : (0 : Int) ≤ (k : Int) := by omega
      have hi2 : (k : Int) < (n : Int) := by omega
      by_cases h : x = z
      · rw [if_pos h] at hE
        have HR := Lib.hid hE
        subst h
        clear hE hx HE
        go_wp2_with fail
        go_ret
        exact ⟨by rw [HR.out]; rfl, rfl⟩
      · rw [if_neg h] at hE
        have HR := Lib.hid hE
        have hq1 : (x == z) = false := by simpa using h
        have hq2 : (z == x) = false := by simpa using fun e => h e.symm
        have hq3 : ¬ z = x := fun e => h e.symm
        clear hE hx HE
        go_wp2_with fail
        go_round
        case rel => exact ⟨k + 1, by omega, by go_num, HR⟩
        case measure => simp [intOf]; omega
    · obtain rfl : k = n := by omega
      have hE := HE.out
      rw [List.drop_of_length_le (by rw [HN.out]; exact Nat.le_refl _)] at hE
      have HR := Lib.hid (show (-1 : Int) = I from hE)
      clear hE HE
      go_wp2_with fail
      go_ret
      exact ⟨by rw [← HR.out]; rfl, rfl⟩
set_option maxHeartbeats 1000000 in
theorem ikin_any (tag key : Int) (text : ByteArray) (A0 A1 : Option Addr) (n0 c0 n1 c1 : Nat) (w : World) :
    Calls Tryd.prog 26 #[.agg #[.int .i64 tag, .int .i64 key, .string text, .slice A0 n0 c0, .slice A1 n1 c1]] w fun e w' => e = .returned (.agg #[.int .i64 tag, .int .i64 key]) ∧ Below w.heap.size w w' := by
  go_enter Tryd.func26, Tryd.ntmps26
  go_wp2_with fail
  refine bodyPost_ret (v := .agg #[.int .i64 tag, .int .i64 key]) (by simp [results, Tryd.results26, go_sem, *]) rfl ⟨rfl, by go_grown⟩
/-- Numbers in a row of the call's own, answered. -/
def PrtX (zs : List Int) (w : World) (e : Ending) (w' : World) : Prop := ∃ (R : Option Addr) (c : Nat), e = .returned (.slice R zs.length c) ∧ w'.ownsRow w.heap.size 3 1 (.slice R zs.length c) zs.length (zV zs) ∧ Below w.heap.size w w'
end Go.Proofs.YtcpfjlbicofkeaaDoor
