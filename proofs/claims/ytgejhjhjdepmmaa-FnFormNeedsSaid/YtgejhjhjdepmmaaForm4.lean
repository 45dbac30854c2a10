/- Formulas: what the program's text answers of a whole one. -/
import Derived.Test.YtgejhjhjdepmmaaForm3
namespace Go.Proofs.Ytgejhjhjdepmmaa
open Go.Joins Go.ChangeShapes Go.WideShapes Go.ChangeAt Go.RowKit Go.Deep
set_option linter.unusedVariables false
set_option linter.unusedSimpArgs false

/-- Of the cells of a call's own first box. -/
theorem ocell {B : Nat} {W w1 : World} (hb : Below (B + 1) W w1) :
    (∀ o, w1.cell? ⟨B, o, none⟩ = W.cell? ⟨B, o, none⟩) ∧ (∀ o, w1.frozen? ⟨B, o, none⟩ = W.frozen? ⟨B, o, none⟩) :=
  ⟨fun o => hb.cell (p := ⟨B, o, none⟩) (Nat.lt_succ_self B), fun o => hb.frozen (p := ⟨B, o, none⟩) (Nat.lt_succ_self B)⟩
theorem takesV_0 : takesV 0 = 0 := by decide
theorem takesV_1 : takesV 1 = 0 := by decide
theorem takesV_2 : takesV 2 = 0 := by decide
theorem takesV_3 : takesV 3 = 0 := by decide
theorem takesV_4 : takesV 4 = 0 := by decide
theorem takesV_5 : takesV 5 = 2 := by decide
theorem takesV_6 : takesV 6 = 3 := by decide

set_option maxHeartbeats 4000000 in
theorem yields_any (A : Option Addr) (c : Nat) (xs : List Stp) (p st t : Int) (w : World) (hx : Lies w A xs) (hl : xs.length ≤ 9) :
    Calls Try.prog 30 #[.slice A xs.length c, .agg #[.int .i64 p, .int .i64 st, .int .i64 t]] w fun e w' => e = .returned (.bool (runB (fun x => stepB opI x p st t) 0 xs)) ∧ Below w.heap.size w w' := by
  have hB := Below.refl (w.heap.size + 1) (w.alloc (.cells #[.int .i64 p, .int .i64 st, .int .i64 t] 54))
  have HB0 := Lib.hid (show w.heap.size + 1 ≤ (w.alloc (.cells #[.int .i64 p, .int .i64 st, .int .i64 t] 54)).heap.size by simp)
  have hF : Below w.heap.size w (w.alloc (.cells #[.int .i64 p, .int .i64 st, .int .i64 t] 54)) := by go_grown
  obtain ⟨n, hn⟩ : ∃ n, xs.length = n := ⟨_, rfl⟩
  rw [hn] at hl ⊢
  have HN := Lib.hid hn
  have HX := Lib.hid hx
  clear hx hn
  have hB00 := Lib.hid hB
  clear hB
  go_enter Try.func30, Try.ntmps30
  go_wp2_with fail
  go_loopw [5, 12] (fun m i w2 => ∃ (k : Nat) (m' : Int), k ≤ n ∧ 0 ≤ m' ∧ m' ≤ k ∧ m = .int .i64 m' ∧ i = .int .i64 k ∧ Below (w.heap.size + 1) (w.alloc (.cells #[.int .i64 p, .int .i64 st, .int .i64 t] 54)) w2 ∧ runB (fun x => stepB opI x p st t) 0 xs = runB (fun x => stepB opI x p st t) m' (xs.drop k)) (fun _ i _ => n - (intOf i).toNat)
  case atStart => exact ⟨0, 0, by omega, by omega, by omega, rfl, rfl, hB00.out, rfl⟩
  case round =>
    obtain ⟨k, m', hk, hm0, hmk, rfl, rfl, hB, hrun⟩ := hrel
    have HR := Lib.hid hrun
    have hG := front hF (by omega) hB
    obtain ⟨hc, hf⟩ := ocell hB
    have hz := hB.size
    simp at hz
    clear hrun
    by_cases hlt : k < n
    · obtain ⟨b, off, rfl, hblt, hcell⟩ := HX.out (by have := HN.out; omega)
      have hkx : k < xs.length := by rw [HN.out]; exact hlt
      obtain ⟨x, hx⟩ : ∃ x, xs[k]? = some x := ⟨_, List.getElem?_eq_getElem hkx⟩
      have hdr : xs.drop k = x :: xs.drop (k + 1) := by
        rw [List.drop_eq_getElem_cons hkx]
        rw [List.getElem?_eq_getElem hkx] at hx
        injection hx with hx
        rw [hx]
      have HR2 := Lib.hid (HR.out.trans (by rw [hdr]; rfl : runB (fun x => stepB opI x p st t) m' (xs.drop k) = (stepB opI x p st t && decide (takesV x.k ≤ m') && runB (fun x => stepB opI x p st t) (m' - takesV x.k + 1) (xs.drop (k + 1)))))
      obtain ⟨c0, c1, c2, c3, c4⟩ := hcell k x hx
      clear hcell hx hdr HR
      have a0 := (hG.cell (p := ⟨b, off + k * 5, none⟩) hblt).trans c0
      have a1 := (hG.cell (p := ⟨b, off + k * 5 + 1, none⟩) hblt).trans c1
      have a2 := (hG.cell (p := ⟨b, off + k * 5 + 2, none⟩) hblt).trans c2
      have a3 := (hG.cell (p := ⟨b, off + k * 5 + 3, none⟩) hblt).trans c3
      have a4 := (hG.cell (p := ⟨b, off + k * 5 + 4, none⟩) hblt).trans c4
      clear c0 c1 c2 c3 c4
      obtain ⟨kd, a, vk, vn, vs⟩ := x
      rcases (by omega : kd = 0 ∨ kd = 1 ∨ kd = 2 ∨ kd = 3 ∨ kd = 4 ∨ kd = 5 ∨ kd = 6 ∨ (kd ≠ 0 ∧ kd ≠ 1 ∧ kd ≠ 2 ∧ kd ≠ 3 ∧ kd ≠ 4 ∧ kd ≠ 5 ∧ kd ≠ 6)) with rfl | rfl | rfl | rfl | rfl | rfl | rfl | ⟨k0, k1, k2, k3, k4, k5, k6⟩
      · have hs := fits_0 a vk vn vs p st t
        rw [show takesV (Stp.k ⟨0, a, vk, vn, vs⟩) = 0 from takesV_0] at HR2
        cases hok : stepB opI ⟨0, a, vk, vn, vs⟩ p st t
        · rw [hok] at hs HR2
          have HS1 := Lib.hid hs
          have hv2 := Lib.hid (HR2.out.trans rfl)
          clear hs hok HR2
          go_wp2_with (first
            | (go_at_call 46; refine (action_0 _ _ _ _ _).mono ?_; rintro e w' ⟨rfl, hb⟩; replace hB := more (W1 := _) (by go_grown; all_goals first | omega | (simp; omega)) HB0.out hb; obtain ⟨hc, hf⟩ := ocell hB; have hz := hB.size; simp at hz; clear hb)
            | (go_at_call 97; refine (HS1.out _).mono ?_; rintro e w' ⟨rfl, hb⟩; replace hB := more (W1 := _) (by go_grown; all_goals first | omega | (simp; omega)) HB0.out hb; obtain ⟨hc, hf⟩ := ocell hB; have hz := hB.size; simp at hz; clear hb))
          go_ret
          exact ⟨ret_bool hv2.out.symm, front hF (by omega) hB⟩
        · rw [hok] at hs HR2
          have HS1 := Lib.hid hs
          clear hs hok
          by_cases hle : (0 : Int) ≤ m'
          · have hd1 : decide (m' < 0) = false := by simp; omega
            have HR3 := Lib.hid (HR2.out.trans (by rw [decide_eq_true hle]; rfl : _ = runB (fun x => stepB opI x p st t) (m' - 0 + 1) (xs.drop (k + 1))))
            go_wp2_with (first
              | (go_at_call 46; refine (action_0 _ _ _ _ _).mono ?_; rintro e w' ⟨rfl, hb⟩; replace hB := more (W1 := _) (by go_grown; all_goals first | omega | (simp; omega)) HB0.out hb; obtain ⟨hc, hf⟩ := ocell hB; have hz := hB.size; simp at hz; clear hb)
              | (go_at_call 97; refine (HS1.out _).mono ?_; rintro e w' ⟨rfl, hb⟩; replace hB := more (W1 := _) (by go_grown; all_goals first | omega | (simp; omega)) HB0.out hb; obtain ⟨hc, hf⟩ := ocell hB; have hz := hB.size; simp at hz; clear hb)
              | (go_at_call 96; refine (takes_src _ _ _ _ _ _).mono ?_; rintro e w' ⟨rfl, hb⟩; replace hB := more (W1 := _) (by go_grown; all_goals first | omega | (simp; omega)) HB0.out hb; obtain ⟨hc, hf⟩ := ocell hB; have hz := hB.size; simp at hz; clear hb))
            go_roundw
            case rel => exact ⟨k + 1, m' - 0 + 1, by omega, by omega, by omega, by congr 1; omega, by go_num, hB, HR3.out⟩
            case measure => simp [intOf]; omega
          · omega
      · have hs := fits_1 a vk vn vs p st t
        rw [show takesV (Stp.k ⟨1, a, vk, vn, vs⟩) = 0 from takesV_1] at HR2
        cases hok : stepB opI ⟨1, a, vk, vn, vs⟩ p st t
        · rw [hok] at hs HR2
          have HS1 := Lib.hid hs
          have hv2 := Lib.hid (HR2.out.trans rfl)
          clear hs hok HR2
          go_wp2_with (first
            | (go_at_call 46; refine (action_1 _ _ _ _ _).mono ?_; rintro e w' ⟨rfl, hb⟩; replace hB := more (W1 := _) (by go_grown; all_goals first | omega | (simp; omega)) HB0.out hb; obtain ⟨hc, hf⟩ := ocell hB; have hz := hB.size; simp at hz; clear hb)
            | (go_at_call 99; refine (HS1.out _).mono ?_; rintro e w' ⟨rfl, hb⟩; replace hB := more (W1 := _) (by go_grown; all_goals first | omega | (simp; omega)) HB0.out hb; obtain ⟨hc, hf⟩ := ocell hB; have hz := hB.size; simp at hz; clear hb))
          go_ret
          exact ⟨ret_bool hv2.out.symm, front hF (by omega) hB⟩
        · rw [hok] at hs HR2
          have HS1 := Lib.hid hs
          clear hs hok
          by_cases hle : (0 : Int) ≤ m'
          · have hd1 : decide (m' < 0) = false := by simp; omega
            have HR3 := Lib.hid (HR2.out.trans (by rw [decide_eq_true hle]; rfl : _ = runB (fun x => stepB opI x p st t) (m' - 0 + 1) (xs.drop (k + 1))))
            go_wp2_with (first
              | (go_at_call 46; refine (action_1 _ _ _ _ _).mono ?_; rintro e w' ⟨rfl, hb⟩; replace hB := more (W1 := _) (by go_grown; all_goals first | omega | (simp; omega)) HB0.out hb; obtain ⟨hc, hf⟩ := ocell hB; have hz := hB.size; simp at hz; clear hb)
              | (go_at_call 99; refine (HS1.out _).mono ?_; rintro e w' ⟨rfl, hb⟩; replace hB := more (W1 := _) (by go_grown; all_goals first | omega | (simp; omega)) HB0.out hb; obtain ⟨hc, hf⟩ := ocell hB; have hz := hB.size; simp at hz; clear hb)
              | (go_at_call 96; refine (takes_src _ _ _ _ _ _).mono ?_; rintro e w' ⟨rfl, hb⟩; replace hB := more (W1 := _) (by go_grown; all_goals first | omega | (simp; omega)) HB0.out hb; obtain ⟨hc, hf⟩ := ocell hB; have hz := hB.size; simp at hz; clear hb))
            go_roundw
            case rel => exact ⟨k + 1, m' - 0 + 1, by omega, by omega, by omega, by congr 1; omega, by go_num, hB, HR3.out⟩
            case measure => simp [intOf]; omega
          · omega
      · have hs := fits_2 a vk vn vs p st t
        rw [show takesV (Stp.k ⟨2, a, vk, vn, vs⟩) = 0 from takesV_2] at HR2
        cases hok : stepB opI ⟨2, a, vk, vn, vs⟩ p st t
        · rw [hok] at hs HR2
          have HS1 := Lib.hid hs
          have hv2 := Lib.hid (HR2.out.trans rfl)
          clear hs hok HR2
          go_wp2_with (first
            | (go_at_call 46; refine (action_2 _ _ _ _ _).mono ?_; rintro e w' ⟨rfl, hb⟩; replace hB := more (W1 := _) (by go_grown; all_goals first | omega | (simp; omega)) HB0.out hb; obtain ⟨hc, hf⟩ := ocell hB; have hz := hB.size; simp at hz; clear hb)
            | (go_at_call 102; refine (HS1.out _).mono ?_; rintro e w' ⟨rfl, hb⟩; replace hB := more (W1 := _) (by go_grown; all_goals first | omega | (simp; omega)) HB0.out hb; obtain ⟨hc, hf⟩ := ocell hB; have hz := hB.size; simp at hz; clear hb))
          go_ret
          exact ⟨ret_bool hv2.out.symm, front hF (by omega) hB⟩
        · rw [hok] at hs HR2
          have HS1 := Lib.hid hs
          clear hs hok
          by_cases hle : (0 : Int) ≤ m'
          · have hd1 : decide (m' < 0) = false := by simp; omega
            have HR3 := Lib.hid (HR2.out.trans (by rw [decide_eq_true hle]; rfl : _ = runB (fun x => stepB opI x p st t) (m' - 0 + 1) (xs.drop (k + 1))))
            go_wp2_with (first
              | (go_at_call 46; refine (action_2 _ _ _ _ _).mono ?_; rintro e w' ⟨rfl, hb⟩; replace hB := more (W1 := _) (by go_grown; all_goals first | omega | (simp; omega)) HB0.out hb; obtain ⟨hc, hf⟩ := ocell hB; have hz := hB.size; simp at hz; clear hb)
              | (go_at_call 102; refine (HS1.out _).mono ?_; rintro e w' ⟨rfl, hb⟩; replace hB := more (W1 := _) (by go_grown; all_goals first | omega | (simp; omega)) HB0.out hb; obtain ⟨hc, hf⟩ := ocell hB; have hz := hB.size; simp at hz; clear hb)
              | (go_at_call 96; refine (takes_src _ _ _ _ _ _).mono ?_; rintro e w' ⟨rfl, hb⟩; replace hB := more (W1 := _) (by go_grown; all_goals first | omega | (simp; omega)) HB0.out hb; obtain ⟨hc, hf⟩ := ocell hB; have hz := hB.size; simp at hz; clear hb))
            go_roundw
            case rel => exact ⟨k + 1, m' - 0 + 1, by omega, by omega, by omega, by congr 1; omega, by go_num, hB, HR3.out⟩
            case measure => simp [intOf]; omega
          · omega
      · have hs := fits_3 a vk vn vs p st t
        rw [show takesV (Stp.k ⟨3, a, vk, vn, vs⟩) = 0 from takesV_3] at HR2
        cases hok : stepB opI ⟨3, a, vk, vn, vs⟩ p st t
        · rw [hok] at hs HR2
          have HS1 := Lib.hid hs
          have hv2 := Lib.hid (HR2.out.trans rfl)
          clear hs hok HR2
          go_wp2_with (first
            | (go_at_call 46; refine (action_3 _ _ _ _ _).mono ?_; rintro e w' ⟨rfl, hb⟩; replace hB := more (W1 := _) (by go_grown; all_goals first | omega | (simp; omega)) HB0.out hb; obtain ⟨hc, hf⟩ := ocell hB; have hz := hB.size; simp at hz; clear hb)
            | (go_at_call 104; refine (HS1.out _).mono ?_; rintro e w' ⟨rfl, hb⟩; replace hB := more (W1 := _) (by go_grown; all_goals first | omega | (simp; omega)) HB0.out hb; obtain ⟨hc, hf⟩ := ocell hB; have hz := hB.size; simp at hz; clear hb))
          go_ret
          exact ⟨ret_bool hv2.out.symm, front hF (by omega) hB⟩
        · rw [hok] at hs HR2
          have HS1 := Lib.hid hs
          clear hs hok
          by_cases hle : (0 : Int) ≤ m'
          · have hd1 : decide (m' < 0) = false := by simp; omega
            have HR3 := Lib.hid (HR2.out.trans (by rw [decide_eq_true hle]; rfl : _ = runB (fun x => stepB opI x p st t) (m' - 0 + 1) (xs.drop (k + 1))))
            go_wp2_with (first
              | (go_at_call 46; refine (action_3 _ _ _ _ _).mono ?_; rintro e w' ⟨rfl, hb⟩; replace hB := more (W1 := _) (by go_grown; all_goals first | omega | (simp; omega)) HB0.out hb; obtain ⟨hc, hf⟩ := ocell hB; have hz := hB.size; simp at hz; clear hb)
              | (go_at_call 104; refine (HS1.out _).mono ?_; rintro e w' ⟨rfl, hb⟩; replace hB := more (W1 := _) (by go_grown; all_goals first | omega | (simp; omega)) HB0.out hb; obtain ⟨hc, hf⟩ := ocell hB; have hz := hB.size; simp at hz; clear hb)
              | (go_at_call 96; refine (takes_src _ _ _ _ _ _).mono ?_; rintro e w' ⟨rfl, hb⟩; replace hB := more (W1 := _) (by go_grown; all_goals first | omega | (simp; omega)) HB0.out hb; obtain ⟨hc, hf⟩ := ocell hB; have hz := hB.size; simp at hz; clear hb))
            go_roundw
            case rel => exact ⟨k + 1, m' - 0 + 1, by omega, by omega, by omega, by congr 1; omega, by go_num, hB, HR3.out⟩
            case measure => simp [intOf]; omega
          · omega
      · have hs := fits_4 a vk vn vs p st t
        rw [show takesV (Stp.k ⟨4, a, vk, vn, vs⟩) = 0 from takesV_4] at HR2
        cases hok : stepB opI ⟨4, a, vk, vn, vs⟩ p st t
        · rw [hok] at hs HR2
          have HS1 := Lib.hid hs
          have hv2 := Lib.hid (HR2.out.trans rfl)
          clear hs hok HR2
          go_wp2_with (first
            | (go_at_call 46; refine (action_4 _ _ _ _ _).mono ?_; rintro e w' ⟨rfl, hb⟩; replace hB := more (W1 := _) (by go_grown; all_goals first | omega | (simp; omega)) HB0.out hb; obtain ⟨hc, hf⟩ := ocell hB; have hz := hB.size; simp at hz; clear hb)
            | (go_at_call 106; refine (HS1.out _).mono ?_; rintro e w' ⟨rfl, hb⟩; replace hB := more (W1 := _) (by go_grown; all_goals first | omega | (simp; omega)) HB0.out hb; obtain ⟨hc, hf⟩ := ocell hB; have hz := hB.size; simp at hz; clear hb))
          go_ret
          exact ⟨ret_bool hv2.out.symm, front hF (by omega) hB⟩
        · rw [hok] at hs HR2
          have HS1 := Lib.hid hs
          clear hs hok
          by_cases hle : (0 : Int) ≤ m'
          · have hd1 : decide (m' < 0) = false := by simp; omega
            have HR3 := Lib.hid (HR2.out.trans (by rw [decide_eq_true hle]; rfl : _ = runB (fun x => stepB opI x p st t) (m' - 0 + 1) (xs.drop (k + 1))))
            go_wp2_with (first
              | (go_at_call 46; refine (action_4 _ _ _ _ _).mono ?_; rintro e w' ⟨rfl, hb⟩; replace hB := more (W1 := _) (by go_grown; all_goals first | omega | (simp; omega)) HB0.out hb; obtain ⟨hc, hf⟩ := ocell hB; have hz := hB.size; simp at hz; clear hb)
              | (go_at_call 106; refine (HS1.out _).mono ?_; rintro e w' ⟨rfl, hb⟩; replace hB := more (W1 := _) (by go_grown; all_goals first | omega | (simp; omega)) HB0.out hb; obtain ⟨hc, hf⟩ := ocell hB; have hz := hB.size; simp at hz; clear hb)
              | (go_at_call 96; refine (takes_src _ _ _ _ _ _).mono ?_; rintro e w' ⟨rfl, hb⟩; replace hB := more (W1 := _) (by go_grown; all_goals first | omega | (simp; omega)) HB0.out hb; obtain ⟨hc, hf⟩ := ocell hB; have hz := hB.size; simp at hz; clear hb))
            go_roundw
            case rel => exact ⟨k + 1, m' - 0 + 1, by omega, by omega, by omega, by congr 1; omega, by go_num, hB, HR3.out⟩
            case measure => simp [intOf]; omega
          · omega
      · have hs := fits_5 a vk vn vs p st t
        rw [show takesV (Stp.k ⟨5, a, vk, vn, vs⟩) = 2 from takesV_5] at HR2
        cases hok : stepB opI ⟨5, a, vk, vn, vs⟩ p st t
        · rw [hok] at hs HR2
          have HS1 := Lib.hid hs
          have hv2 := Lib.hid (HR2.out.trans rfl)
          clear hs hok HR2
          go_wp2_with (first
            | (go_at_call 46; refine (action_5 _ _ _ _ _).mono ?_; rintro e w' ⟨rfl, hb⟩; replace hB := more (W1 := _) (by go_grown; all_goals first | omega | (simp; omega)) HB0.out hb; obtain ⟨hc, hf⟩ := ocell hB; have hz := hB.size; simp at hz; clear hb)
            | (go_at_call 108; refine (HS1.out _).mono ?_; rintro e w' ⟨rfl, hb⟩; replace hB := more (W1 := _) (by go_grown; all_goals first | omega | (simp; omega)) HB0.out hb; obtain ⟨hc, hf⟩ := ocell hB; have hz := hB.size; simp at hz; clear hb))
          go_ret
          exact ⟨ret_bool hv2.out.symm, front hF (by omega) hB⟩
        · rw [hok] at hs HR2
          have HS1 := Lib.hid hs
          clear hs hok
          by_cases hle : (2 : Int) ≤ m'
          · have hd1 : decide (m' < 2) = false := by simp; omega
            have HR3 := Lib.hid (HR2.out.trans (by rw [decide_eq_true hle]; rfl : _ = runB (fun x => stepB opI x p st t) (m' - 2 + 1) (xs.drop (k + 1))))
            go_wp2_with (first
              | (go_at_call 46; refine (action_5 _ _ _ _ _).mono ?_; rintro e w' ⟨rfl, hb⟩; replace hB := more (W1 := _) (by go_grown; all_goals first | omega | (simp; omega)) HB0.out hb; obtain ⟨hc, hf⟩ := ocell hB; have hz := hB.size; simp at hz; clear hb)
              | (go_at_call 108; refine (HS1.out _).mono ?_; rintro e w' ⟨rfl, hb⟩; replace hB := more (W1 := _) (by go_grown; all_goals first | omega | (simp; omega)) HB0.out hb; obtain ⟨hc, hf⟩ := ocell hB; have hz := hB.size; simp at hz; clear hb)
              | (go_at_call 109; refine (takes_do _ _ _ _ _ _).mono ?_; rintro e w' ⟨rfl, hb⟩; replace hB := more (W1 := _) (by go_grown; all_goals first | omega | (simp; omega)) HB0.out hb; obtain ⟨hc, hf⟩ := ocell hB; have hz := hB.size; simp at hz; clear hb))
            go_roundw
            case rel => exact ⟨k + 1, m' - 2 + 1, by omega, by omega, by omega, by congr 1; omega, by go_num, hB, HR3.out⟩
            case measure => simp [intOf]; omega
          · have hd1 : decide (m' < 2) = true := by simp; omega
            have HR3 := Lib.hid (HR2.out.trans (by rw [decide_eq_false hle]; rfl : _ = false))
            go_wp2_with (first
              | (go_at_call 46; refine (action_5 _ _ _ _ _).mono ?_; rintro e w' ⟨rfl, hb⟩; replace hB := more (W1 := _) (by go_grown; all_goals first | omega | (simp; omega)) HB0.out hb; obtain ⟨hc, hf⟩ := ocell hB; have hz := hB.size; simp at hz; clear hb)
              | (go_at_call 108; refine (HS1.out _).mono ?_; rintro e w' ⟨rfl, hb⟩; replace hB := more (W1 := _) (by go_grown; all_goals first | omega | (simp; omega)) HB0.out hb; obtain ⟨hc, hf⟩ := ocell hB; have hz := hB.size; simp at hz; clear hb)
              | (go_at_call 109; refine (takes_do _ _ _ _ _ _).mono ?_; rintro e w' ⟨rfl, hb⟩; replace hB := more (W1 := _) (by go_grown; all_goals first | omega | (simp; omega)) HB0.out hb; obtain ⟨hc, hf⟩ := ocell hB; have hz := hB.size; simp at hz; clear hb))
            go_ret
            exact ⟨ret_bool HR3.out.symm, front hF (by omega) hB⟩
      · have hs := fits_6 a vk vn vs p st t
        rw [show takesV (Stp.k ⟨6, a, vk, vn, vs⟩) = 3 from takesV_6] at HR2
        cases hok : stepB opI ⟨6, a, vk, vn, vs⟩ p st t
        · rw [hok] at hs HR2
          have HS1 := Lib.hid hs
          have hv2 := Lib.hid (HR2.out.trans rfl)
          clear hs hok HR2
          go_wp2_with (first
            | (go_at_call 46; refine (action_6 _ _ _ _ _).mono ?_; rintro e w' ⟨rfl, hb⟩; replace hB := more (W1 := _) (by go_grown; all_goals first | omega | (simp; omega)) HB0.out hb; obtain ⟨hc, hf⟩ := ocell hB; have hz := hB.size; simp at hz; clear hb)
            | (go_at_call 111; refine (HS1.out _).mono ?_; rintro e w' ⟨rfl, hb⟩; replace hB := more (W1 := _) (by go_grown; all_goals first | omega | (simp; omega)) HB0.out hb; obtain ⟨hc, hf⟩ := ocell hB; have hz := hB.size; simp at hz; clear hb))
          go_ret
          exact ⟨ret_bool hv2.out.symm, front hF (by omega) hB⟩
        · rw [hok] at hs HR2
          have HS1 := Lib.hid hs
          clear hs hok
          by_cases hle : (3 : Int) ≤ m'
          · have hd1 : decide (m' < 3) = false := by simp; omega
            have HR3 := Lib.hid (HR2.out.trans (by rw [decide_eq_true hle]; rfl : _ = runB (fun x => stepB opI x p st t) (m' - 3 + 1) (xs.drop (k + 1))))
            go_wp2_with (first
              | (go_at_call 46; refine (action_6 _ _ _ _ _).mono ?_; rintro e w' ⟨rfl, hb⟩; replace hB := more (W1 := _) (by go_grown; all_goals first | omega | (simp; omega)) HB0.out hb; obtain ⟨hc, hf⟩ := ocell hB; have hz := hB.size; simp at hz; clear hb)
              | (go_at_call 111; refine (HS1.out _).mono ?_; rintro e w' ⟨rfl, hb⟩; replace hB := more (W1 := _) (by go_grown; all_goals first | omega | (simp; omega)) HB0.out hb; obtain ⟨hc, hf⟩ := ocell hB; have hz := hB.size; simp at hz; clear hb)
              | (go_at_call 112; refine (takes_pick _ _ _ _ _ _).mono ?_; rintro e w' ⟨rfl, hb⟩; replace hB := more (W1 := _) (by go_grown; all_goals first | omega | (simp; omega)) HB0.out hb; obtain ⟨hc, hf⟩ := ocell hB; have hz := hB.size; simp at hz; clear hb))
            go_roundw
            case rel => exact ⟨k + 1, m' - 3 + 1, by omega, by omega, by omega, by congr 1; omega, by go_num, hB, HR3.out⟩
            case measure => simp [intOf]; omega
          · have hd1 : decide (m' < 3) = true := by simp; omega
            have HR3 := Lib.hid (HR2.out.trans (by rw [decide_eq_false hle]; rfl : _ = false))
            go_wp2_with (first
              | (go_at_call 46; refine (action_6 _ _ _ _ _).mono ?_; rintro e w' ⟨rfl, hb⟩; replace hB := more (W1 := _) (by go_grown; all_goals first | omega | (simp; omega)) HB0.out hb; obtain ⟨hc, hf⟩ := ocell hB; have hz := hB.size; simp at hz; clear hb)
              | (go_at_call 111; refine (HS1.out _).mono ?_; rintro e w' ⟨rfl, hb⟩; replace hB := more (W1 := _) (by go_grown; all_goals first | omega | (simp; omega)) HB0.out hb; obtain ⟨hc, hf⟩ := ocell hB; have hz := hB.size; simp at hz; clear hb)
              | (go_at_call 112; refine (takes_pick _ _ _ _ _ _).mono ?_; rintro e w' ⟨rfl, hb⟩; replace hB := more (W1 := _) (by go_grown; all_goals first | omega | (simp; omega)) HB0.out hb; obtain ⟨hc, hf⟩ := ocell hB; have hz := hB.size; simp at hz; clear hb))
            go_ret
            exact ⟨ret_bool HR3.out.symm, front hF (by omega) hB⟩
      · have HR3 := Lib.hid (HR2.out.trans (by simp [stepB, k0, k1, k2, k3, k4, k5, k6] : _ = false))
        have HA := Lib.hid (action_none kd a vk vn vs · k0 k1 k2 k3 k4 k5 k6)
        clear k0 k1 k2 k3 k4 k5 k6
        go_wp2_with (go_at_call 46; refine (HA.out _).mono ?_; rintro e w' ⟨rfl, hb⟩; replace hB := more (W1 := _) (by go_grown; all_goals first | omega | (simp; omega)) HB0.out hb; obtain ⟨hc, hf⟩ := ocell hB; have hz := hB.size; simp at hz; clear hb)
        go_ret
        exact ⟨ret_bool HR3.out.symm, front hF (by omega) hB⟩
    · have hkn : k = n := by omega
      have hv2 := Lib.hid (HR.out.trans (by rw [List.drop_eq_nil_of_le (by rw [HN.out]; omega)]; rfl : _ = decide (m' = 1)))
      clear hkn
      by_cases h1 : m' = 1
      · subst h1
        go_wp2_with fail
        go_ret
        exact ⟨ret_bool (hv2.out.trans (by simp)).symm, hG⟩
      · have h1' : (m' == 1) = false := by simpa using h1
        have hv3 := Lib.hid (hv2.out.trans (by simp [h1] : _ = false))
        clear h1
        go_wp2_with fail
        go_ret
        exact ⟨ret_bool hv3.out.symm, hG⟩

set_option maxHeartbeats 400000 in
theorem iform_any (A : Option Addr) (c : Nat) (xs : List Stp) (p st t : Int) (w : World) (hx : Lies w A xs) (hl : xs.length ≤ maxLen) :
    Calls Try.prog 9 #[.slice A xs.length c, .int .i64 p, .int .i64 st, .int .i64 t] w fun e w' => e = .returned (.bool (rangeB p st t && formB opI xs p st t)) ∧ Below w.heap.size w w' := by
  have hB := Below.refl (w.heap.size + 1) (w.alloc (.cells #[.int .i64 p, .int .i64 st, .int .i64 t] 54))
  have HB0 := Lib.hid (show w.heap.size + 1 ≤ (w.alloc (.cells #[.int .i64 p, .int .i64 st, .int .i64 t] 54)).heap.size by simp)
  have hF : Below w.heap.size w (w.alloc (.cells #[.int .i64 p, .int .i64 st, .int .i64 t] 54)) := by go_grown
  unfold maxLen at hl
  have HX := Lib.hid hx
  clear hx
  by_cases h9 : xs.length ≤ 9
  · have HF := Lib.hid (show formB opI xs p st t = runB (fun x => stepB opI x p st t) 0 xs by unfold formB; rw [decide_eq_true h9]; rfl)
    have HY := Lib.hid (fun w h => yields_any A c xs p st t w h h9)
    obtain ⟨n, hn⟩ : ∃ n, xs.length = n := ⟨_, rfl⟩
    have HN := Lib.hid hn
    rw [hn] at hl h9 HY ⊢
    clear hn
    have h9' : decide ((n : Int) ≤ 9) = true := by simp; omega
    have HC := counts_any p st t
    cases hr : rangeB p st t
    · rw [hr] at HC
      have HC1 := Lib.hid HC
      clear HC hr
      go_enter Try.func9, Try.ntmps9
      go_wp2_with (go_at_call 29; refine (HC1.out _).mono ?_; rintro e w' ⟨rfl, hb⟩; replace hB := more (W1 := _) (by go_grown; all_goals first | omega | (simp; omega)) HB0.out hb; obtain ⟨hc, hf⟩ := ocell hB; have hz := hB.size; simp at hz; clear hb)
      go_ret
      exact ⟨rfl, front hF (by omega) hB⟩
    · rw [hr] at HC
      have HC1 := Lib.hid HC
      clear HC hr
      go_enter Try.func9, Try.ntmps9
      go_wp2_with (first
        | (go_at_call 29; refine (HC1.out _).mono ?_; rintro e w' ⟨rfl, hb⟩; replace hB := more (W1 := _) (by go_grown; all_goals first | omega | (simp; omega)) HB0.out hb; obtain ⟨hc, hf⟩ := ocell hB; have hz := hB.size; simp at hz; clear hb)
        | (go_at_call 30; refine (HY.out _ (HX.out.below (front hF (by omega) hB))).mono ?_; rintro e w' ⟨rfl, hb⟩; replace hB := more (W1 := _) (by go_grown; all_goals first | omega | (simp; omega)) HB0.out hb; obtain ⟨hc, hf⟩ := ocell hB; have hz := hB.size; simp at hz; clear hb))
      go_ret
      exact ⟨ret_bool HF.out.symm, front hF (by omega) hB⟩
  · have HF := Lib.hid (show formB opI xs p st t = false by unfold formB; rw [decide_eq_false h9]; rfl)
    obtain ⟨n, hn⟩ : ∃ n, xs.length = n := ⟨_, rfl⟩
    rw [hn] at hl h9 ⊢
    clear hn
    have h9' : decide ((n : Int) ≤ 9) = false := by simp; omega
    go_enter Try.func9, Try.ntmps9
    go_wp2_with fail
    go_ret
    exact ⟨ret_bool (by rw [HF.out, Bool.and_false]), by go_grown⟩

end Go.Proofs.Ytgejhjhjdepmmaa
