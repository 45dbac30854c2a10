/- The laws' own marks in numbers: written, and found again. -/
import Derived.Test.YtcpfjlbicofkeaaDoorMktM
import Derived.Test.YtcpfjlbicofkeaaDoorIntM
namespace Go.Proofs.YtcpfjlbicofkeaaDoor
open Go.Joins Go.ChangeShapes Go.WideShapes Go.ChangeAt Go.RowKit Go.Deep
set_option linter.unusedVariables false
set_option linter.unusedSimpArgs false

def markI : Nat → Nat → List Int
  | 0, _ => []
  | n + 1, k => (k : Int) :: markI n (k + 1)
theorem markI_len : ∀ (n k : Nat), (markI n k).length = n
  | 0, _ => rfl
  | n + 1, k => by simp [markI, markI_len n (k + 1)]
theorem markI_at : ∀ (n k j : Nat), j < n → (markI n k)[j]? = some ((k + j : Nat) : Int)
  | 0, _, _, h => by omega
  | n + 1, k, 0, _ => rfl
  | n + 1, k, j + 1, h => by
    have := markI_at n (k + 1) j (by omega)
    show (markI n (k + 1))[j]? = _
    rw [this, show k + 1 + j = k + (j + 1) by omega]
set_option maxHeartbeats 1000000 in
theorem markInts_any (g c base k n : Nat) (L0 : List Value) (w : World) (ho : w.ownsRow base 3 1 (.slice (some ⟨g, 0, none⟩) n c) n L0) (hl : n ≤ 1048576) (hk : k ≤ 50000000) :
    Calls Tryd.prog 13 #[.slice (some ⟨g, 0, none⟩) n c, .int .i64 k] w (MarkX g base 3 1 n c (zV (markI n k)) (k + n : Nat) w) := by
  have HO := Lib.hid ho
  clear ho
  go_enter Tryd.func13, Tryd.ntmps13
  go_wp2_with fail
  go_loopw [1, 5] (fun m i wr => ∃ (j : Nat) (L : List Value), j ≤ n ∧ i = .int .i64 j ∧ m = .int .i64 (k + j : Nat) ∧ wr.ownsRow base 3 1 (.slice (some ⟨g, 0, none⟩) n c) n L ∧ Hid (∀ i, i < j → L[i]? = some (.int .i64 (k + i : Nat))) ∧ w.grownBy wr (some g)) (fun _ i _ => n - (intOf i).toNat)
  case atStart => exact ⟨0, _, by omega, rfl, rfl, HO.out, Lib.hid (fun i h => absurd h (by omega)), World.grownBy.refl w _⟩
  case round =>
    obtain ⟨j, L, hj, rfl, rfl, hown, HL, hgr⟩ := hrel
    have HO2 := Lib.hid hown
    have HG := Lib.hid hgr
    have hLl : L.length = n * 1 := hown.1
    clear hown hgr
    by_cases hlt : j < n
    · have hi1 : (0 : Int) ≤ (j : Int) := by omega
      have hi2 : (j : Int) < (n : Int) := by omega
      obtain ⟨u0, d0⟩ : ∃ u, wr.cell? ⟨g, j, none⟩ = some u := ⟨_, (HO2.out.cellAt j (by omega)).trans (List.getElem?_eq_getElem (show j < L.length by omega))⟩
      have f0 := HO2.out.frozenAt j
      have HLl := Lib.hid hLl
      obtain ⟨q, hq⟩ : ∃ q : Nat, q = k + j := ⟨_, rfl⟩
      have HQ := Lib.hid hq
      have hqb : q ≤ 60000000 := by omega
      rw [← hq]
      clear hLl hq
      go_wp2_with fail
      obtain ⟨s1, g1⟩ := HO2.out.stored j (.int .i64 q)
      go_roundw
      case rel =>
        refine ⟨j + 1, _, by omega, by go_num, by rw [HQ.out]; go_num, s1, Lib.hid (fun i hi => ?_), grown_trans HG.out g1⟩
        by_cases hij : i = j
        · subst hij
          rw [List.getElem?_set_self (by have := HLl.out; omega), HQ.out]
        · rw [List.getElem?_set_ne (by omega)]
          exact HL.out i (by omega)
      case measure => simp [intOf]; omega
    · obtain rfl : j = n := by omega
      go_wp2_with fail
      go_ret
      have e : L = zV (markI j k) := list_is (n := j) (by omega) (by rw [zV_len, markI_len]) (fun i u hi hu => by
        rw [zV_at (markI_at j k i hi)] at hu
        injection hu with hu
        rw [← hu]
        exact HL.out i hi)
      rw [← e]
      exact ⟨rfl, HO2.out, HG.out⟩
set_option maxHeartbeats 400000 in
theorem markInts_nil (A : Option Addr) (c : Nat) (k : Int) (w : World) : Calls Tryd.prog 13 #[.slice A 0 c, .int .i64 k] w fun e w' => e = .returned (.int .i64 k) ∧ w = w' := by
  go_enter Tryd.func13, Tryd.ntmps13
  go_wp2_with fail
  go_loop [1, 5] (fun m i => m = .int .i64 k ∧ i = .int .i64 0) (fun _ _ => 0)
  case atStart => exact ⟨rfl, rfl⟩
  case round =>
    obtain ⟨rfl, rfl⟩ := hrel
    go_wp2_with fail
    go_ret
    exact ⟨rfl, rfl⟩
set_option maxHeartbeats 1000000 in
theorem heldInts_any (A : Option Addr) (c k n : Nat) (w : World) (hx : IntL w A (markI n k)) (hl : n ≤ 1048576) (hk : k ≤ 50000000) :
    Calls Tryd.prog 14 #[.slice A n c, .int .i64 k] w fun e w' => e = .returned (.int .i64 (k + n : Nat)) ∧ w = w' := by
  have HX := Lib.hid hx
  clear hx
  go_enter Tryd.func14, Tryd.ntmps14
  go_wp2_with fail
  go_loop [1, 5] (fun m i => ∃ j : Nat, j ≤ n ∧ i = .int .i64 j ∧ m = .int .i64 (k + j : Nat)) (fun _ i => n - (intOf i).toNat)
  case atStart => exact ⟨0, by omega, rfl, rfl⟩
  case round =>
    obtain ⟨j, hj, rfl, rfl⟩ := hrel
    by_cases hlt : j < n
    · obtain ⟨b, off, rfl, hblt, c0⟩ := IntL.at_ HX.out (markI_at n k j hlt)
      have hi1 : (0 : Int) ≤ (j : Int) := by omega
      have hi2 : (j : Int) < (n : Int) := by omega
      obtain ⟨q, hq⟩ : ∃ q : Nat, q = k + j := ⟨_, rfl⟩
      have HQ := Lib.hid hq
      have hqb : q ≤ 60000000 := by omega
      rw [← hq] at c0 ⊢
      clear hq
      go_wp2_with fail
      go_round
      case rel => exact ⟨j + 1, by omega, by go_num, by rw [HQ.out]; go_num⟩
      case measure => simp [intOf]; omega
    · obtain rfl : j = n := by omega
      go_wp2_with fail
      go_ret
      exact ⟨rfl, rfl⟩
end Go.Proofs.YtcpfjlbicofkeaaDoor
