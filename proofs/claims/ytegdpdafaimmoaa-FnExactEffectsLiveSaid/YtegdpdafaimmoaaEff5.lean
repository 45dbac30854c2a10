/- Where a place is in a row of places, by the document. -/
import Derived.Test.YtegdpdafaimmoaaEff4
namespace Go.Proofs.Ytegdpdafaimmoaa
open Go.Joins Go.ChangeShapes Go.WideShapes Go.ChangeAt Go.RowKit Go.Deep
set_option linter.unusedVariables false
set_option linter.unusedSimpArgs false

theorem cmpP_iff : ∀ xs ys : List Sl, cmpP xs ys = 0 ↔ xs = ys
  | [], [] => by simp [cmpP]
  | [], _ :: _ => by simp [cmpP]
  | _ :: _, [] => by simp [cmpP]
  | x :: xs, y :: ys => by
    rcases cmp_ways x y with h1 | ⟨h1, h2⟩ | h1 | ⟨h1, h2⟩ | rfl
    · rw [cmpP_lt _ _ (.inl h1)]
      have : ¬ x = y := by rintro rfl; omega
      simp [this]
    · rw [cmpP_lt _ _ (.inr ⟨h1, h2⟩)]
      have : ¬ x = y := by rintro rfl; omega
      simp [this]
    · rw [cmpP_gt _ _ (.inl h1)]
      have : ¬ x = y := by rintro rfl; omega
      simp [this]
    · rw [cmpP_gt _ _ (.inr ⟨h1, h2⟩)]
      have : ¬ x = y := by rintro rfl; omega
      simp [this]
    · rw [cmpP_eq, cmpP_iff xs ys]
      simp
/-- Where a place is first, from the k-th on. -/
def posP (y : List Sl) : List (List Sl) → Nat → Int
  | [], _ => -1
  | x :: xs, k => if x = y then (k : Int) else posP y xs (k + 1)
set_option maxHeartbeats 2000000 in
theorem slotsAt_any (A A' : Option Addr) (c c' n : Nat) (xs : List (List Sl)) (y : List Sl) (w : World) (hx : PsL w A xs) (hy : SlL w A' y) (hn : xs.length = n) (hl : n ≤ 1048576) (hs : ∀ x ∈ xs, x.length ≤ maxLen) (hyl : y.length ≤ maxLen) :
    Calls Try.prog 32 #[.slice A n c, .slice A' y.length c'] w fun e w' => e = .returned (.int .i64 (posP y xs 0)) ∧ Below w.heap.size w w' := by
  have HN := Lib.hid hn
  have HX := Lib.hid hx
  have HY := Lib.hid hy
  have HS := Lib.hid hs
  have K0 := Lib.hid (fun A0 c0 (x : List Sl) w h1 h2 h3 => cmpPlaces_any A0 A' c0 c' x y w h1 h2 h3 hyl)
  obtain ⟨m, hm⟩ : ∃ m, y.length = m := ⟨_, rfl⟩
  rw [hm] at K0 ⊢
  clear hx hy hn hs hyl hm
  go_enter Try.func32, Try.ntmps32
  go_wp2_with fail
  go_loopw [5] (fun i w2 => ∃ k : Nat, k ≤ n ∧ i = .int .i64 k ∧ Hid (Below w.heap.size w w2) ∧ Hid (posP y xs 0 = posP y (xs.drop k) k)) (fun i _ => n - (intOf i).toNat)
  case atStart => exact ⟨0, by omega, rfl, Lib.hid (by go_grown), Lib.hid rfl⟩
  case round =>
    obtain ⟨k, hk, rfl, HB, HR⟩ := hrel
    by_cases hlt : k < n
    · obtain ⟨b, off, rfl, hblt, hcell⟩ := (HX.out.below HB.out) (by have := HN.out; omega)
      obtain ⟨x, hx⟩ := at_some (show k < xs.length by rw [HN.out]; exact hlt)
      obtain ⟨A0, c0, e0, hat⟩ := hcell k x hx
      have hm0 := HS.out x (List.mem_of_getElem? hx)
      have HR2 := Lib.hid (HR.out.trans (congrArg (fun l => posP y l k) (drop_cons hx)))
      have hi1 : (0 : Int) ≤ (k : Int) := by omega
      have hi2 : (k : Int) < (n : Int) := by omega
      have k1 := K0.out A0 c0 x wr hat (HY.out.below HB.out) hm0
      by_cases he : x = y
      · rw [(cmpP_iff x y).2 he] at k1
        have HV := Lib.hid (HR2.out.trans (show posP y (x :: xs.drop (k + 1)) k = (k : Int) by rw [posP, if_pos he]))
        have K1 := Lib.hid k1
        clear k1 he hx hcell hat hm0 HR HR2
        go_wp2_with fail
        refine K1.out.mono ?_
        rintro e w2 ⟨rfl, hb⟩
        have HB2 := Lib.hid (more HB.out (Nat.le_refl _) hb)
        clear hb
        go_wp2_with fail
        go_ret
        exact ⟨ret_int HV.out.symm, HB2.out⟩
      · have hne : ¬ cmpP x y = 0 := fun e => he ((cmpP_iff x y).1 e)
        obtain ⟨z, hz⟩ : ∃ z, cmpP x y = z := ⟨_, rfl⟩
        rw [hz] at k1 hne
        have hd1 : (z == 0) = false := by simpa using hne
        have hd2 : decide (z = 0) = false := by simpa using hne
        have HV := Lib.hid (HR2.out.trans (show posP y (x :: xs.drop (k + 1)) k = posP y (xs.drop (k + 1)) (k + 1) by rw [posP, if_neg he]))
        have K1 := Lib.hid k1
        clear k1 he hne hx hcell hat hm0 HR HR2 hz
        go_wp2_with fail
        refine K1.out.mono ?_
        rintro e w2 ⟨rfl, hb⟩
        have HB2 := Lib.hid (more HB.out (Nat.le_refl _) hb)
        clear hb
        go_wp2_with fail
        go_roundw
        case rel => exact ⟨k + 1, by omega, by go_num, HB2, HV⟩
        case measure => simp [intOf]; omega
    · obtain rfl : k = n := by omega
      have HV := Lib.hid (HR.out.trans (show posP y (xs.drop k) k = -1 by rw [List.drop_eq_nil_of_le (by rw [HN.out]; exact Nat.le_refl _)]; rfl))
      go_wp2_with fail
      go_ret
      exact ⟨ret_int HV.out.symm, HB.out⟩
end Go.Proofs.Ytegdpdafaimmoaa
