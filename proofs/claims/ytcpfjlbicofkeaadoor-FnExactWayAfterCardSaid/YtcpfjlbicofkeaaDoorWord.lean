/- What two texts of the program answer of a byte and of a word: the same plain function of the bytes. -/
import Derived.Test.YtcpfjlbicofkeaaDoorRows
import Derived.WalkKit
import Derived.ProofKit
import Derived.Lib.Hide
import Derived.BigQuiet
import Derived.Deep.QuietTactic
namespace Go.Proofs.YtcpfjlbicofkeaaDoor
open Go.ChangeShapes Go.WideShapes Go.ChangeAt Go.RowKit
set_option linter.unusedVariables false

theorem ret_bool {a b : Bool} (h : a = b) : Ending.returned (.bool a) = .returned (.bool b) := by rw [h]

/-- A byte that may stand in a text. -/
def plainB (c : Int) : Bool := decide ((97 ≤ c ∧ c ≤ 122) ∨ (48 ≤ c ∧ c ≤ 57) ∨ c = 32)

theorem plain_ways (c : Int) : (97 ≤ c ∧ c ≤ 122) ∨ (48 ≤ c ∧ c ≤ 57) ∨ c = 32 ∨ 123 ≤ c ∨ (58 ≤ c ∧ c ≤ 96) ∨ (33 ≤ c ∧ c ≤ 47) ∨ c ≤ 31 := by omega
set_option maxHeartbeats 400000 in
theorem plain_spec (c : Int) (w : World) (h0 : 0 ≤ c) (h1 : c ≤ 255) :
    Calls Tryd.prog 76 #[.int .u8 c] w fun e w' => e = .returned (.bool (plainB c)) ∧ w = w' := by
  rcases plain_ways c with ⟨a, b⟩ | ⟨a, b⟩ | rfl | a | ⟨a, b⟩ | ⟨a, b⟩ | a
  case inr.inr.inl =>
    go_enter Tryd.func76, Tryd.ntmps76
    go_wp2
    go_ret
    exact ⟨ret_bool (by decide), rfl⟩
  all_goals
    have hv := Lib.hid (show plainB c = decide ((97 ≤ c ∧ c ≤ 122) ∨ (48 ≤ c ∧ c ≤ 57) ∨ c = 32) from rfl)
    go_enter Tryd.func76, Tryd.ntmps76
    go_wp2
    go_ret
    refine ⟨ret_bool ?_, rfl⟩
    rw [hv.out]
    first | (symm; apply decide_eq_true; omega) | (rw [Bool.eq_iff_iff]; simp; omega)
set_option maxHeartbeats 400000 in
theorem plain_impl (c : Int) (w : World) (h0 : 0 ≤ c) (h1 : c ≤ 255) :
    Calls Tryd.prog 86 #[.int .u8 c] w fun e w' => e = .returned (.bool (plainB c)) ∧ w = w' := by
  rcases plain_ways c with ⟨a, b⟩ | ⟨a, b⟩ | rfl | a | ⟨a, b⟩ | ⟨a, b⟩ | a
  case inr.inr.inl =>
    go_enter Tryd.func86, Tryd.ntmps86
    go_wp2
    go_ret
    exact ⟨ret_bool (by decide), rfl⟩
  all_goals
    have hv := Lib.hid (show plainB c = decide ((97 ≤ c ∧ c ≤ 122) ∨ (48 ≤ c ∧ c ≤ 57) ∨ c = 32) from rfl)
    go_enter Tryd.func86, Tryd.ntmps86
    go_wp2
    go_ret
    refine ⟨ret_bool ?_, rfl⟩
    rw [hv.out]
    first | (symm; apply decide_eq_true; omega) | (rw [Bool.eq_iff_iff]; simp; omega)
/-- The first so many bytes of a text are such. -/
def plainTo (s : ByteArray) (k : Nat) : Bool := (s.data.toList.take k).all fun c => plainB c.toNat
/-- A text of a value. -/
def wordB (s : ByteArray) : Bool := decide (s.size ≤ 12) && plainTo s s.size

theorem plainTo_succ (s : ByteArray) (k : Nat) (h : k < s.size) : plainTo s (k + 1) = (plainTo s k && plainB (s[k].toNat : Int)) := by
  have e : s.data.toList.take (k + 1) = s.data.toList.take k ++ [s[k]] := by
    rw [List.take_succ_eq_append_getElem (by simpa using h)]; rfl
  unfold plainTo
  rw [e, List.all_append]
  simp
theorem plainTo_false (s : ByteArray) (k : Nat) (h : k < s.size) (hc : plainB (s[k].toNat : Int) = false) : plainTo s s.size = false := by
  unfold plainTo
  rw [List.all_eq_false]
  refine ⟨s[k], ?_, by simp [hc]⟩
  rw [List.take_of_length_le (by simp)]
  exact List.getElem_mem (l := s.data.toList) (by simpa using h)

set_option maxHeartbeats 400000 in
theorem word_spec (s : ByteArray) (w : World) :
    Calls Tryd.prog 68 #[.string s] w fun e w' => e = .returned (.bool (wordB s)) ∧ w = w' := by
  have hw := Lib.hid (show wordB s = (decide (s.size ≤ 12) && plainTo s s.size) from rfl)
  by_cases hs : s.size ≤ 12
  · have hd : decide (12 < (s.size : Int)) = false := by simp; omega
    have HP := Lib.hid (plainTo_succ s)
    have HF := Lib.hid (plainTo_false s)
    go_enter Tryd.func68, Tryd.ntmps68
    go_wp2
    go_loop [3] (fun i => ∃ k : Nat, k ≤ s.size ∧ plainTo s k = true ∧ i = .int .i64 k) (fun i => s.size - (intOf i).toNat)
    case atStart => exact ⟨0, Nat.zero_le _, rfl, rfl⟩
    case round =>
      obtain ⟨k, hk, hp0, rfl⟩ := hrel
      have hp := Lib.hid hp0
      clear hp0
      by_cases hlt : k < s.size
      · by_cases hc : plainB (s[k].toNat : Int) = true
        · have hc' := Lib.hid hc
          go_wp2_with (go_at_call 76; refine (plain_spec _ _ (by omega) (by have := s[k].toNat_lt; omega)).mono ?_; rintro e w' ⟨rfl, rfl⟩)
          go_round
          case rel => exact ⟨k + 1, by omega, by rw [HP.out k hlt, hp.out, hc'.out]; rfl, by go_num⟩
          case measure => simp [intOf]; omega
        · have hc' := Lib.hid (Bool.eq_false_iff.2 hc)
          have hc2 : plainB (s[k].toNat : Int) = false := Bool.eq_false_iff.2 hc
          clear hc
          go_wp2_with (go_at_call 76; refine (plain_spec _ _ (by omega) (by have := s[k].toNat_lt; omega)).mono ?_; rintro e w' ⟨rfl, rfl⟩)
          go_ret
          exact ⟨ret_bool (by rw [hw.out, HF.out k hlt hc'.out]; simp), rfl⟩
      · obtain rfl : k = s.size := by omega
        go_wp2
        go_ret
        exact ⟨ret_bool (by rw [hw.out, hp.out]; simp [hs]), rfl⟩
  · go_enter Tryd.func68, Tryd.ntmps68
    go_wp2
    go_ret
    exact ⟨ret_bool (by rw [hw.out]; simp [hs]), rfl⟩

set_option maxHeartbeats 400000 in
theorem word_impl (s : ByteArray) (w : World) :
    Calls Tryd.prog 78 #[.string s] w fun e w' => e = .returned (.bool (wordB s)) ∧ w = w' := by
  have hw := Lib.hid (show wordB s = (decide (s.size ≤ 12) && plainTo s s.size) from rfl)
  by_cases hs : s.size ≤ 12
  · have hd : decide (12 < (s.size : Int)) = false := by simp; omega
    have HP := Lib.hid (plainTo_succ s)
    have HF := Lib.hid (plainTo_false s)
    go_enter Tryd.func78, Tryd.ntmps78
    go_wp2
    go_loop [3, 9] (fun _ i => ∃ k : Nat, k ≤ s.size ∧ plainTo s k = true ∧ i = .int .i64 k) (fun _ i => s.size - (intOf i).toNat)
    case atStart => exact ⟨0, Nat.zero_le _, rfl, rfl⟩
    case round =>
      obtain ⟨k, hk, hp0, rfl⟩ := hrel
      have hp := Lib.hid hp0
      clear hp0
      by_cases hlt : k < s.size
      · by_cases hc : plainB (s[k].toNat : Int) = true
        · have hc' := Lib.hid hc
          go_wp2_with (go_at_call 86; refine (plain_impl _ _ (by omega) (by have := s[k].toNat_lt; omega)).mono ?_; rintro e w' ⟨rfl, rfl⟩)
          go_round
          case rel => exact ⟨k + 1, by omega, by rw [HP.out k hlt, hp.out, hc'.out]; rfl, by go_num⟩
          case measure => simp [intOf]; omega
        · have hc' := Lib.hid (Bool.eq_false_iff.2 hc)
          have hc2 : plainB (s[k].toNat : Int) = false := Bool.eq_false_iff.2 hc
          clear hc
          go_wp2_with (go_at_call 86; refine (plain_impl _ _ (by omega) (by have := s[k].toNat_lt; omega)).mono ?_; rintro e w' ⟨rfl, rfl⟩)
          go_ret
          exact ⟨ret_bool (by rw [hw.out, HF.out k hlt hc'.out]; simp), rfl⟩
      · obtain rfl : k = s.size := by omega
        go_wp2
        go_ret
        exact ⟨ret_bool (by rw [hw.out, hp.out]; simp [hs]), rfl⟩
  · go_enter Tryd.func78, Tryd.ntmps78
    go_wp2
    go_ret
    exact ⟨ret_bool (by rw [hw.out]; simp [hs]), rfl⟩

end Go.Proofs.YtcpfjlbicofkeaaDoor
