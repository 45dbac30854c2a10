/- Texts that a valid value is shown as, by the document's own text. -/
import Derived.Test.YtcpfjlbicofkeaaDoorDec
import Derived.Test.YtcpfjlbicofkeaaDoorTre8
namespace Go.Proofs.YtcpfjlbicofkeaaDoor
open Go.Joins Go.ChangeShapes Go.WideShapes Go.ChangeAt Go.RowKit Go.Deep
set_option linter.unusedVariables false
set_option linter.unusedSimpArgs false

def negS (n : Nat) : ByteArray := ⟨(Lib.itoa (-(n : Int))).toArray⟩
/-- A text of a value, or a number below 0 and not below -1000. -/
def shownB (s : ByteArray) : Bool := wordB s || (List.range 1000).any fun i => decide (s = negS (i + 1))
theorem negS_data (n : Nat) (h : 1 ≤ n) : (negS n).data.toList = 45 :: Lib.decDigits n := by
  unfold negS Lib.itoa
  rw [if_pos (by omega)]
  simp
theorem negS_size (n : Nat) (h : 1 ≤ n) : 0 < (negS n).size := by
  rw [← ByteArray.size_data, ← Array.length_toList, negS_data n h]; simp
theorem head_data {s : ByteArray} (h : 0 < s.size) : s.data.toList[0]? = some s[0] := by
  rw [List.getElem?_eq_getElem (by simpa using h)]; rfl
/-- A text that is not a number below 0. -/
theorem shownB_word {s : ByteArray} (h : s.size = 0 ∨ ∃ h : 0 < s.size, (s[0].toNat : Int) ≠ 45) : shownB s = wordB s := by
  unfold shownB
  have h2 : ((List.range 1000).any fun i => decide (s = negS (i + 1))) = false := by
    rw [List.any_eq_false]
    intro i _
    rw [decide_eq_true_iff]
    rintro rfl
    rcases h with h | ⟨h, hc⟩
    · have := negS_size (i + 1) (by omega); omega
    · have h3 := head_data h
      rw [negS_data (i + 1) (by omega)] at h3
      simp at h3
      apply hc
      rw [← h3]; rfl
  rw [h2, Bool.or_false]
theorem shownB_neg {s : ByteArray} (h : 0 < s.size) (hc : (s[0].toNat : Int) = 45) : shownB s = (List.range 1000).any fun i => decide (s = negS (i + 1)) := by
  unfold shownB
  have h2 : wordB s = false := by
    unfold wordB
    have h3 : plainTo s s.size = false := plainTo_false s 0 h (by rw [hc]; decide)
    rw [h3, Bool.and_false]
  rw [h2, Bool.false_or]
set_option maxHeartbeats 2000000 in
theorem sshown_any (s : ByteArray) (w : World) :
    Calls Tryd.prog 57 #[.string s] w fun e w' => e = .returned (.bool (shownB s)) ∧ w = w' := by
  by_cases h0 : s.size = 0
  · have HV := Lib.hid (shownB_word (.inl h0))
    have hd : ((s.size : Int) == 0) = true := by rw [h0]; rfl
    go_enter Tryd.func57, Tryd.ntmps57
    go_wp2_with (go_at_call 68; refine (word_spec _ _).mono ?_; rintro e w' ⟨rfl, rfl⟩)
    go_ret
    exact ⟨ret_bool HV.out.symm, rfl⟩
  have h1 : 0 < s.size := by omega
  have hd : ((s.size : Int) == 0) = false := by rw [beq_eq_false_iff_ne]; omega
  by_cases hc : (s[0].toNat : Int) = 45
  case neg =>
    have HV := Lib.hid (shownB_word (.inr ⟨h1, hc⟩))
    have hd2 : ((s[0].toNat : Int) != 45) = true := by simpa using hc
    clear hc
    go_enter Tryd.func57, Tryd.ntmps57
    go_wp2_with (go_at_call 68; refine (word_spec _ _).mono ?_; rintro e w' ⟨rfl, rfl⟩)
    go_ret
    exact ⟨ret_bool HV.out.symm, rfl⟩
  have HV := Lib.hid (shownB_neg h1 hc)
  have hd2 : ((s[0].toNat : Int) != 45) = false := by rw [hc]; rfl
  clear hc
  go_enter Tryd.func57, Tryd.ntmps57
  go_wp2_with fail
  go_loop [3] (fun v => ∃ n : Nat, 1 ≤ n ∧ n ≤ 1001 ∧ v = .int .i64 n ∧ Hid (∀ i, i + 1 < n → s ≠ negS (i + 1))) (fun v => 1001 - (intOf v).toNat)
  case atStart => exact ⟨1, by omega, by omega, rfl, Lib.hid fun i hi => by omega⟩
  case round =>
    obtain ⟨n, hn1, hn2, rfl, HQ⟩ := hrel
    by_cases hlt : n ≤ 1000
    · have hlt' : (n : Int) ≤ 1000 := by omega
      have K := Lib.hid (fun w => dec_any (-(n : Int)) w (by omega) (by omega))
      obtain ⟨t, ht⟩ : ∃ t, (⟨(Lib.itoa (-(n : Int))).toArray⟩ : ByteArray) = t := ⟨_, rfl⟩
      rw [ht] at K
      by_cases he : s = t
      · have HF := Lib.hid (show shownB s = true by
          rw [HV.out, List.any_eq_true]
          refine ⟨n - 1, by simp; omega, ?_⟩
          rw [Nat.sub_add_cancel hn1]
          exact decide_eq_true (he.trans ht.symm))
        have hd3 : (s.toList == t.toList) = true := by rw [he]; simp
        clear he ht
        go_wp2_with (go_at_call 69; refine (K.out _).mono ?_; rintro e w' ⟨rfl, rfl⟩)
        go_ret
        exact ⟨ret_bool HF.out.symm, rfl⟩
      · have HQ2 := Lib.hid (show ∀ i, i + 1 < n + 1 → s ≠ negS (i + 1) from fun i hi => by
          rcases Nat.lt_or_ge (i + 1) n with h | h
          · exact HQ.out i h
          · obtain rfl : n = i + 1 := by omega
            exact fun h => he (h.trans ht))
        have hd3 : (s.toList == t.toList) = false := by rw [beq_eq_false_iff_ne, Lib.toList_data, Lib.toList_data]; intro h; exact he (ByteArray.ext (Array.toList_inj.1 h))
        clear he ht
        go_wp2_with (go_at_call 69; refine (K.out _).mono ?_; rintro e w' ⟨rfl, rfl⟩)
        go_round
        case rel => exact ⟨n + 1, by omega, by omega, by go_num, HQ2⟩
        case measure => simp [intOf]; omega
    · have hlt' : ¬ (n : Int) ≤ 1000 := by omega
      have HF := Lib.hid (show shownB s = false by
        rw [HV.out, List.any_eq_false]
        intro i hi
        rw [decide_eq_true_iff]
        exact HQ.out i (by have := List.mem_range.1 hi; omega))
      go_wp2_with fail
      go_ret
      exact ⟨ret_bool HF.out.symm, rfl⟩
end Go.Proofs.YtcpfjlbicofkeaaDoor
