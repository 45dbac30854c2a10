/- Places: whether one is below another one. -/
import Derived.Test.YtegdpdafaimmoaaPlc8
namespace Go.Proofs.Ytegdpdafaimmoaa
open Go.Joins Go.ChangeShapes Go.WideShapes Go.ChangeAt Go.RowKit Go.Deep
set_option linter.unusedVariables false
set_option linter.unusedSimpArgs false

theorem cmpP_zero : ∀ (xs ys : List Sl), xs.length = ys.length → decide (cmpP xs ys = 0) = eqSl xs ys
  | [], [], _ => rfl
  | [], _ :: _, h => by simp at h
  | _ :: _, [], h => by simp at h
  | x :: xs, y :: ys, h => by
    rcases cmp_ways x y with h1 | ⟨h1, h2⟩ | h1 | ⟨h1, h2⟩ | rfl
    · rw [cmpP_lt _ _ (.inl h1)]
      have : ¬ x = y := by rintro rfl; omega
      simp [eqSl, this]
    · rw [cmpP_lt _ _ (.inr ⟨h1, h2⟩)]
      have : ¬ x = y := by rintro rfl; omega
      simp [eqSl, this]
    · rw [cmpP_gt _ _ (.inl h1)]
      have : ¬ x = y := by rintro rfl; omega
      simp [eqSl, this]
    · rw [cmpP_gt _ _ (.inr ⟨h1, h2⟩)]
      have : ¬ x = y := by rintro rfl; omega
      simp [eqSl, this]
    · rw [cmpP_eq]
      simp only [eqSl, decide_true, Bool.true_and]
      exact cmpP_zero xs ys (by simpa using h)

/-- Whether a place begins with another one. -/
def underB (xs ys : List Sl) : Bool := decide (ys.length ≤ xs.length) && eqSl (xs.take ys.length) ys

set_option maxHeartbeats 2000000 in
theorem sEqual_any (A A' : Option Addr) (c c' n : Nat) (xs ys : List Sl) (w : World) (hx : SlL w A xs) (hy : SlL w A' ys) (hn : xs.length = n) (hm : ys.length = n) (hl : n ≤ maxLen) :
    Calls Try.prog 49 #[.slice A n c, .slice A' n c'] w fun e w' => e = .returned (.bool (eqSl xs ys)) ∧ Below w.heap.size w w' := by
  unfold maxLen at hl
  have HN := Lib.hid hn
  have HM := Lib.hid hm
  have HX := Lib.hid hx
  have HY := Lib.hid hy
  clear hx hy hn hm
  go_enter Try.func49, Try.ntmps49
  go_wp2_with fail
  go_loopw [5, 13] (fun _ i w2 => ∃ k : Nat, k ≤ n ∧ i = .int .i64 k ∧ Below w.heap.size w w2 ∧ eqSl xs ys = eqSl (xs.drop k) (ys.drop k)) (fun _ i _ => n - (intOf i).toNat)
  case atStart => exact ⟨0, by omega, rfl, by go_grown, rfl⟩
  case round =>
    obtain ⟨k, hk, rfl, hB, hrun⟩ := hrel
    have HR := Lib.hid hrun
    clear hrun
    by_cases hlt : k < n
    · obtain ⟨b, off, rfl, hblt, hcell⟩ := SlL.at_ (HX.out.below hB) (by have := HN.out; omega)
      obtain ⟨b', off', rfl, hblt', hcell'⟩ := SlL.at_ (HY.out.below hB) (by have := HM.out; omega)
      obtain ⟨x, hx⟩ := at_some (show k < xs.length by rw [HN.out]; exact hlt)
      obtain ⟨y, hy⟩ := at_some (show k < ys.length by rw [HM.out]; exact hlt)
      have HR2 := Lib.hid (HR.out.trans (by rw [drop_cons hx, drop_cons hy]; rfl : eqSl (xs.drop k) (ys.drop k) = (decide (x = y) && eqSl (xs.drop (k + 1)) (ys.drop (k + 1)))))
      obtain ⟨c0, c1⟩ := hcell k x hx
      obtain ⟨d0, d1⟩ := hcell' k y hy
      have hi1 : (0 : Int) ≤ (k : Int) := by omega
      have hi2 : (k : Int) < (n : Int) := by omega
      clear hcell hx hcell' hy HR
      rcases sl_ways x y with ⟨h1, hv⟩ | ⟨h1, h2, hv⟩ | rfl
      · rw [hv] at HR2
        have HV := Lib.hid (HR2.out.trans (Bool.false_and _))
        have h1' : (x.p != y.p) = true := by show (!(x.p == y.p)) = true; rw [h1]; rfl
        clear HR2 hv
        obtain ⟨p, s⟩ := x
        obtain ⟨q, t⟩ := y
        dsimp only at c0 c1 d0 d1 h1 h1'
        go_wp2_with fail
        go_quiet (fail)
        go_wp2_with fail
        go_ret
        exact ⟨ret_bool HV.out.symm, drewN_below hB _⟩
      · rw [hv] at HR2
        have HV := Lib.hid (HR2.out.trans (Bool.false_and _))
        have h2' : (x.s != y.s) = true := by show (!(x.s == y.s)) = true; rw [h2]; rfl
        clear HR2 hv
        obtain ⟨p, s⟩ := x
        obtain ⟨q, t⟩ := y
        dsimp only at c0 c1 d0 d1 h1 h2 h2'
        subst h1
        go_wp2_with fail
        go_quiet (fail)
        go_wp2_with fail
        go_ret
        exact ⟨ret_bool HV.out.symm, drewN_below hB _⟩
      · have HV := Lib.hid (HR2.out.trans (by rw [decide_eq_true rfl]; exact Bool.true_and _ : _ = eqSl (xs.drop (k + 1)) (ys.drop (k + 1))))
        clear HR2
        obtain ⟨p, s⟩ := x
        dsimp only at c0 c1 d0 d1
        go_wp2_with fail
        go_quiet (fail)
        go_wp2_with fail
        go_roundw
        case rel => exact ⟨k + 1, by omega, by go_num, drewN_below hB _, HV.out⟩
        case measure => simp [intOf]; omega
    · have HV := Lib.hid (HR.out.trans (by rw [drop_none (by rw [HN.out]; omega), drop_none (by rw [HM.out]; omega)]; rfl : eqSl (xs.drop k) (ys.drop k) = true))
      go_wp2_with fail
      go_ret
      exact ⟨ret_bool HV.out.symm, hB⟩
theorem cmpPlaces_n (A A' : Option Addr) (c c' n m : Nat) (xs ys : List Sl) (w : World) (hx : SlL w A xs) (hy : SlL w A' ys) (hn : xs.length = n) (hm : ys.length = m) (hl : n ≤ maxLen) (hl' : m ≤ maxLen) :
    Calls Try.prog 45 #[.slice A n c, .slice A' m c'] w fun e w' => e = .returned (.int .i64 (cmpP xs ys)) ∧ Below w.heap.size w w' := by
  subst hn hm
  exact cmpPlaces_any A A' c c' xs ys w hx hy hl hl'
/-- A place's beginning, as a cut lays it. -/
theorem Lie.cut {w : World} {A : Option Addr} {xs : List Sl} (h : SlL w A xs) (c m : Nat) : SlL w (if c = 0 then A else A.map (·.add (0 * 2))) (xs.take m) := by
  have h2 := h.take m
  split
  · exact h2
  · intro h0
    obtain ⟨b, off, rfl, hlt, hc⟩ := h2 h0
    exact ⟨b, off, by simp [Addr.add], hlt, hc⟩

set_option maxHeartbeats 1000000 in
theorem under_any (A A' : Option Addr) (c c' : Nat) (xs ys : List Sl) (w : World) (hx : SlL w A xs) (hy : SlL w A' ys) (hl : xs.length ≤ maxLen) (hl' : ys.length ≤ maxLen) (hc : xs.length ≤ c) :
    Calls Try.prog 48 #[.slice A xs.length c, .slice A' ys.length c'] w fun e w' => e = .returned (.bool (underB xs ys)) ∧ Below w.heap.size w w' := by
  by_cases hle : ys.length ≤ xs.length
  · have hv : underB xs ys = decide (cmpP (xs.take ys.length) ys = 0) := by unfold underB; rw [cmpP_zero _ _ (by rw [List.length_take]; omega), decide_eq_true hle]; rfl
    have HL := Lib.hid (show (xs.take ys.length).length = ys.length by rw [List.length_take]; omega)
    have HM := Lib.hid hl'
    have HY := Lib.hid hy
    have HX := Lib.hid hx
    unfold maxLen at hl hl'
    obtain ⟨n, hn⟩ : ∃ n, xs.length = n := ⟨_, rfl⟩
    obtain ⟨m, hm⟩ : ∃ m, ys.length = m := ⟨_, rfl⟩
    rw [hn] at hle hl hc ⊢
    rw [hm] at hle hl' hv HL HM ⊢
    have HV := Lib.hid hv
    have HMM := Lib.hid hm
    clear hx hy hv hn hm
    go_enter Try.func48, Try.ntmps48
    go_wp2_with fail
    refine (cmpPlaces_n _ _ _ _ _ _ (xs.take m) ys _ (by first | exact HX.out.cut c m | exact HX.out.take m) HY.out HL.out HMM.out HM.out HM.out).mono ?_
    rintro e w1 ⟨rfl, hb⟩
    have HB := Lib.hid hb
    clear hb
    go_wp2_with fail
    go_ret
    refine ⟨ret_bool ?_, HB.out⟩
    rw [HV.out]
    first | rfl | (trace_state; simp)
  · have hv := Lib.hid (show underB xs ys = false by unfold underB; rw [decide_eq_false hle]; rfl)
    unfold maxLen at hl hl'
    have hd : decide ((ys.length : Int) ≤ xs.length) = false := by simp; omega
    go_enter Try.func48, Try.ntmps48
    go_wp2_with fail
    go_ret
    exact ⟨ret_bool hv.out.symm, by go_grown⟩

set_option maxHeartbeats 1000000 in
theorem iunder_any (A A' : Option Addr) (c c' : Nat) (xs ys : List Sl) (w : World) (hx : SlL w A xs) (hy : SlL w A' ys) (hl : xs.length ≤ maxLen) (hl' : ys.length ≤ maxLen) (hc : xs.length ≤ c) :
    Calls Try.prog 25 #[.slice A xs.length c, .slice A' ys.length c'] w fun e w' => e = .returned (.bool (placeB xs && placeB ys && underB xs ys)) ∧ Below w.heap.size w w' := by
  have k1 := fun A c w h => iplace_any A c xs w h hl
  have k2 := fun A c w h => iplace_any A c ys w h hl'
  have HX := Lib.hid hx
  have HY := Lib.hid hy
  have HM := Lib.hid hl'
  have hv : (placeB xs && placeB ys && underB xs ys) = (placeB xs && (placeB ys && (decide (ys.length ≤ xs.length) && eqSl (xs.take ys.length) ys))) := by rw [Bool.and_assoc]; rfl
  have hll := hl
  have hll' := hl'
  unfold maxLen at hll hll'
  by_cases hle : ys.length ≤ xs.length
  · have HL := Lib.hid (show (xs.take ys.length).length = ys.length by rw [List.length_take]; omega)
    rw [decide_eq_true hle] at hv
    obtain ⟨n, hn⟩ : ∃ n, xs.length = n := ⟨_, rfl⟩
    obtain ⟨m, hm⟩ : ∃ m, ys.length = m := ⟨_, rfl⟩
    have HMM := Lib.hid hm
    have HNN := Lib.hid hn
    rw [hn] at k1 hle hll hc ⊢
    rw [hm] at k2 hle hll' HL HM hv ⊢
    have hd : decide ((m : Int) ≤ n) = true := by simp; omega
    clear hx hy hl hl' hn hm
    cases hp : placeB xs
    · rw [hp] at k1 hv
      have K1 := Lib.hid k1
      have HV := Lib.hid hv
      clear k1 k2 hp hv
      go_enter Try.func25, Try.ntmps25
      go_wp2_with (go_at_call 20; ((with_reducible refine (K1.out _ _ _ HX.out).mono ?_); rintro e w1 ⟨rfl, hb⟩); have HB1 := Lib.hid hb; clear hb)
      go_ret
      exact ⟨ret_bool HV.out.symm, HB1.out⟩
    · rw [hp] at k1 hv
      have K1 := Lib.hid k1
      clear k1 hp
      cases hq : placeB ys
      · rw [hq] at k2 hv
        have K2 := Lib.hid k2
        have HV := Lib.hid hv
        clear k2 hq hv
        go_enter Try.func25, Try.ntmps25
        go_wp2_with (first
          | (go_at_call 20; ((with_reducible refine (K1.out _ _ _ HX.out).mono ?_); rintro e w1 ⟨rfl, hb⟩); have HB1 := Lib.hid hb; clear hb)
          | (go_at_call 20; ((with_reducible refine (K2.out _ _ _ (HY.out.below HB1.out)).mono ?_); rintro e w2 ⟨rfl, hb⟩); have HB2 := Lib.hid (more HB1.out (Nat.le_refl _) hb); clear hb))
        go_ret
        exact ⟨ret_bool HV.out.symm, HB2.out⟩
      · rw [hq] at k2 hv
        have K2 := Lib.hid k2
        have HV := Lib.hid hv
        clear k2 hq hv
        go_enter Try.func25, Try.ntmps25
        go_wp2_with (first
          | (go_at_call 20; ((with_reducible refine (K1.out _ _ _ HX.out).mono ?_); rintro e w1 ⟨rfl, hb⟩); have HB1 := Lib.hid hb; clear hb)
          | (go_at_call 20; ((with_reducible refine (K2.out _ _ _ (HY.out.below HB1.out)).mono ?_); rintro e w2 ⟨rfl, hb⟩); have HB2 := Lib.hid (more HB1.out (Nat.le_refl _) hb); clear hb))
        refine (sEqual_any _ _ _ _ _ (xs.take m) ys _ (by first | exact (HX.out.below HB2.out).cut c m | exact (HX.out.below HB2.out).take m) (HY.out.below HB2.out) HL.out HMM.out HM.out).mono ?_
        rintro e w3 ⟨rfl, hb⟩
        have HB3 := Lib.hid (more HB2.out (Nat.le_refl _) hb)
        clear hb
        go_wp2_with fail
        go_ret
        refine ⟨ret_bool ?_, HB3.out⟩
        rw [HV.out]
        simp
  · rw [decide_eq_false hle] at hv
    obtain ⟨n, hn⟩ : ∃ n, xs.length = n := ⟨_, rfl⟩
    obtain ⟨m, hm⟩ : ∃ m, ys.length = m := ⟨_, rfl⟩
    rw [hn] at k1 hle hll hc ⊢
    rw [hm] at k2 hle hll' HM hv ⊢
    have hd : decide ((m : Int) ≤ n) = false := by simp; omega
    clear hx hy hl hl' hn hm
    cases hp : placeB xs
    · rw [hp] at k1 hv
      have K1 := Lib.hid k1
      have HV := Lib.hid hv
      clear k1 k2 hp hv
      go_enter Try.func25, Try.ntmps25
      go_wp2_with (go_at_call 20; ((with_reducible refine (K1.out _ _ _ HX.out).mono ?_); rintro e w1 ⟨rfl, hb⟩); have HB1 := Lib.hid hb; clear hb)
      go_ret
      exact ⟨ret_bool HV.out.symm, HB1.out⟩
    · rw [hp] at k1 hv
      have K1 := Lib.hid k1
      clear k1 hp
      cases hq : placeB ys
      all_goals
        rw [hq] at k2 hv
        have K2 := Lib.hid k2
        have HV := Lib.hid hv
        clear k2 hq hv
        go_enter Try.func25, Try.ntmps25
        go_wp2_with (first
          | (go_at_call 20; ((with_reducible refine (K1.out _ _ _ HX.out).mono ?_); rintro e w1 ⟨rfl, hb⟩); have HB1 := Lib.hid hb; clear hb)
          | (go_at_call 20; ((with_reducible refine (K2.out _ _ _ (HY.out.below HB1.out)).mono ?_); rintro e w2 ⟨rfl, hb⟩); have HB2 := Lib.hid (more HB1.out (Nat.le_refl _) hb); clear hb))
        go_ret
        exact ⟨ret_bool HV.out.symm, HB2.out⟩

set_option maxHeartbeats 1000000 in
theorem sunder_any (A A' : Option Addr) (c c' : Nat) (xs ys : List Sl) (w : World) (hx : SlL w A xs) (hy : SlL w A' ys) (hl : xs.length ≤ maxLen) (hl' : ys.length ≤ maxLen) (hc : xs.length ≤ c) :
    Calls Try.prog 24 #[.slice A xs.length c, .slice A' ys.length c'] w fun e w' => e = .returned (.bool (placeB xs && placeB ys && underB xs ys)) ∧ Below w.heap.size w w' := by
  have k1 := fun A c w h => vplace_any A c xs w h hl
  have k2 := fun A c w h => vplace_any A c ys w h hl'
  have k3 := fun A A' c' w h h' => under_any A A' c c' xs ys w h h' hl hl' hc
  have HX := Lib.hid hx
  have HY := Lib.hid hy
  have hv : (placeB xs && placeB ys && underB xs ys) = (placeB xs && placeB ys && underB xs ys) := rfl
  obtain ⟨n, hn⟩ : ∃ n, xs.length = n := ⟨_, rfl⟩
  obtain ⟨m, hm⟩ : ∃ m, ys.length = m := ⟨_, rfl⟩
  rw [hn] at k1 k3 hc ⊢
  rw [hm] at k2 k3 ⊢
  have K3 := Lib.hid k3
  clear hx hy hl hl' hn hm k3
  cases hp : placeB xs
  · rw [hp] at k1 hv
    have K1 := Lib.hid k1
    have HV := Lib.hid hv
    clear k1 k2 hp hv
    go_enter Try.func24, Try.ntmps24
    go_wp2_with (go_at_call 33; ((with_reducible refine (K1.out _ _ _ HX.out).mono ?_); rintro e w1 ⟨rfl, hb⟩); have HB1 := Lib.hid hb; clear hb)
    go_ret
    exact ⟨ret_bool (by simp), HB1.out⟩
  · rw [hp] at k1 hv
    have K1 := Lib.hid k1
    clear k1 hp
    cases hq : placeB ys
    · rw [hq] at k2 hv
      have K2 := Lib.hid k2
      clear k2 hq hv
      go_enter Try.func24, Try.ntmps24
      go_wp2_with (first
        | (go_at_call 33; ((with_reducible refine (K1.out _ _ _ HX.out).mono ?_); rintro e w1 ⟨rfl, hb⟩); have HB1 := Lib.hid hb; clear hb)
        | (go_at_call 33; ((with_reducible refine (K2.out _ _ _ (HY.out.below HB1.out)).mono ?_); rintro e w2 ⟨rfl, hb⟩); have HB2 := Lib.hid (more HB1.out (Nat.le_refl _) hb); clear hb))
      go_ret
      exact ⟨ret_bool (by simp), HB2.out⟩
    · rw [hq] at k2 hv
      have K2 := Lib.hid k2
      clear k2 hq hv
      go_enter Try.func24, Try.ntmps24
      go_wp2_with (first
        | (go_at_call 33; ((with_reducible refine (K1.out _ _ _ HX.out).mono ?_); rintro e w1 ⟨rfl, hb⟩); have HB1 := Lib.hid hb; clear hb)
        | (go_at_call 33; ((with_reducible refine (K2.out _ _ _ (HY.out.below HB1.out)).mono ?_); rintro e w2 ⟨rfl, hb⟩); have HB2 := Lib.hid (more HB1.out (Nat.le_refl _) hb); clear hb))
      refine (K3.out _ _ _ _ (HX.out.below HB2.out) (HY.out.below HB2.out)).mono ?_
      rintro e w3 ⟨rfl, hb⟩
      have HB3 := Lib.hid (more HB2.out (Nat.le_refl _) hb)
      clear hb
      go_wp2_with fail
      go_ret
      exact ⟨ret_bool (by simp), HB3.out⟩
end Go.Proofs.Ytegdpdafaimmoaa
