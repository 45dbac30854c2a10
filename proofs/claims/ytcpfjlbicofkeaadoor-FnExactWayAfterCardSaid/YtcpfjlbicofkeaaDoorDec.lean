/- What the two texts of the program show of a value: the same bytes. -/
import Derived.Test.YtcpfjlbicofkeaaDoorValid
import Derived.Lib.ItoaNum
import Derived.ShutString
namespace Go.Proofs.YtcpfjlbicofkeaaDoor
open Go.ChangeShapes Go.WideShapes Go.ChangeAt Go.RowKit
set_option linter.unusedVariables false

theorem ret_str {a b : ByteArray} (h : a = b) : Ending.returned (.string a) = .returned (.string b) := by rw [h]

set_option maxHeartbeats 400000 in
theorem dec_digit (n : Int) (w : World) (h0 : 0 ≤ n) (h1 : n < 10) :
    Calls Tryd.prog 69 #[.int .i64 n] w fun e w' => e = .returned (.string ⟨(Lib.decDigits n.toNat).toArray⟩) ∧ w = w' := by
  rcases (by omega : n = 0 ∨ n = 1 ∨ n = 2 ∨ n = 3 ∨ n = 4 ∨ n = 5 ∨ n = 6 ∨ n = 7 ∨ n = 8 ∨ n = 9) with rfl | rfl | rfl | rfl | rfl | rfl | rfl | rfl | rfl | rfl
  all_goals
    go_enter Tryd.func69, Tryd.ntmps69
    go_wp2_with fail
    go_ret
    refine ⟨ret_str ?_, rfl⟩
    rw [Lib.decDigits_one (by decide)]
    rfl

theorem dec_join (n : Nat) (h : 10 ≤ n) : (⟨(Lib.decDigits (n / 10)).toArray⟩ : ByteArray) ++ ⟨(Lib.decDigits (n % 10)).toArray⟩ = ⟨(Lib.decDigits n).toArray⟩ := by
  conv => rhs; rw [Lib.decDigits, dif_neg (by omega)]
  rw [Lib.decDigits_one (show n % 10 < 10 by omega)]
  apply ByteArray.ext
  simp

theorem dec_len (k : Nat) : ∀ u : Nat, u < 10 ^ (k + 1) → (Lib.decDigits u).length ≤ k + 1 := by
  induction k with
  | zero => intro u h; rw [Lib.decDigits_one (by simpa using h)]; simp
  | succ k ih =>
    intro u h
    rw [Lib.decDigits]
    split
    · simp
    · have := ih (u / 10) (by rw [Nat.pow_succ] at h; omega)
      simp; omega
theorem dec_len20 (u : Nat) (h : u ≤ 9223372036854775807) : (Lib.decDigits u).length ≤ 20 := dec_len 19 u (by omega)

set_option maxHeartbeats 400000 in
theorem dec_nat (k : Nat) : ∀ (n : Int) (w : World), 0 ≤ n → n < k → n ≤ 9223372036854775807 →
    Calls Tryd.prog 69 #[.int .i64 n] w fun e w' => e = .returned (.string ⟨(Lib.decDigits n.toNat).toArray⟩) ∧ w = w' := by
  induction k with
  | zero => intro n w h0 hk; omega
  | succ k ih =>
    intro n w h0 hk hm
    by_cases h10 : n < 10
    · exact dec_digit n w h0 h10
    · have IH := Lib.hid ih
      clear ih
      have a1 : 0 ≤ n / 10 := by omega
      have a2 : n / 10 < k := by omega
      have a3 : n / 10 ≤ 9223372036854775807 := by omega
      have b1 : 0 ≤ n % 10 := by omega
      have b2 : n % 10 < k := by omega
      have b3 : n % 10 ≤ 9223372036854775807 := by omega
      have l1 := dec_len20 (n / 10).toNat (by omega)
      have l2 := dec_len20 (n % 10).toNat (by omega)
      go_enter Tryd.func69, Tryd.ntmps69
      go_wp2_with (go_at_call 69; refine (IH.out _ _ (by assumption) (by assumption) (by assumption)).mono ?_; rintro e w' ⟨rfl, rfl⟩)
      go_ret
      refine ⟨ret_str ?_, rfl⟩
      rw [← dec_join n.toNat (by omega), show n.toNat / 10 = (n / 10).toNat by omega, show n.toNat % 10 = (n % 10).toNat by omega]

theorem itoa_of_neg (n : Int) (h : n < 0) : (⟨#[45]⟩ : ByteArray) ++ ⟨(Lib.decDigits (-n).toNat).toArray⟩ = ⟨(Lib.itoa n).toArray⟩ := by
  unfold Lib.itoa
  rw [if_pos h, show (-n).toNat = n.natAbs by omega]
  apply ByteArray.ext
  simp
theorem itoa_of_nat (n : Int) (h : 0 ≤ n) : Lib.itoa n = Lib.decDigits n.toNat := by
  unfold Lib.itoa
  rw [if_neg (by omega)]

set_option maxHeartbeats 400000 in
/-- A number in decimal. -/
theorem dec_any (n : Int) (w : World) (h0 : -9223372036854775807 ≤ n) (h1 : n ≤ 9223372036854775807) :
    Calls Tryd.prog 69 #[.int .i64 n] w fun e w' => e = .returned (.string ⟨(Lib.itoa n).toArray⟩) ∧ w = w' := by
  by_cases hn : n < 0
  · have a1 : 0 ≤ -n := by omega
    have a2 : -n < (-n).toNat + 1 := by omega
    have a3 : -n ≤ 9223372036854775807 := by omega
    have l1 := dec_len20 (-n).toNat (by omega)
    have HI := Lib.hid (itoa_of_neg n hn)
    have HD := Lib.hid (dec_nat ((-n).toNat + 1) (-n))
    go_enter Tryd.func69, Tryd.ntmps69
    go_wp2_with (go_at_call 69; refine (HD.out _ (by omega) (by omega) (by omega)).mono ?_; rintro e w' ⟨rfl, rfl⟩)
    go_ret
    refine ⟨ret_str ?_, rfl⟩
    rw [← HI.out]
  · rw [itoa_of_nat n (by omega)]
    exact dec_nat (n.toNat + 1) n w (by omega) (by omega) h1
end Go.Proofs.YtcpfjlbicofkeaaDoor
