/- Places: the program's own order of places. -/
import Derived.Test.YtegdpdafaimmoaaPlc7
namespace Go.Proofs.Ytegdpdafaimmoaa
open Go.Joins Go.ChangeShapes Go.WideShapes Go.ChangeAt Go.RowKit Go.Deep
set_option linter.unusedVariables false
set_option linter.unusedSimpArgs false

set_option maxHeartbeats 2000000 in
theorem cmpFunc_any (A A' : Option Addr) (c c' : Nat) (xs ys : List Sl) (w : World) (hx : SlL w A xs) (hy : SlL w A' ys) (hl : xs.length ≤ maxLen) (hl' : ys.length ≤ maxLen) :
    Calls Try.prog 46 #[.slice A xs.length c, .slice A' ys.length c', .func (.func 47) #[] #[]] w fun e w' => e = .returned (.int .i64 (cmpP xs ys)) ∧ Below w.heap.size w w' := by
  unfold maxLen at hl hl'
  obtain ⟨n, hn⟩ : ∃ n, xs.length = n := ⟨_, rfl⟩
  obtain ⟨m, hm⟩ : ∃ m, ys.length = m := ⟨_, rfl⟩
  rw [hn] at hl ⊢
  rw [hm] at hl' ⊢
  have HN := Lib.hid hn
  have HM := Lib.hid hm
  have HX := Lib.hid hx
  have HY := Lib.hid hy
  clear hx hy hn hm
  go_enter Try.func46, Try.ntmps46
  go_wp2_with fail
  go_loopw [7, 8, 9, 10, 13] (fun _ _ _ _ i w2 => ∃ k : Nat, k ≤ n ∧ k ≤ m ∧ i = .int .i64 k ∧ Below w.heap.size w w2 ∧ cmpP xs ys = cmpP (xs.drop k) (ys.drop k)) (fun _ _ _ _ i _ => n - (intOf i).toNat)
  case atStart => exact ⟨0, by omega, by omega, rfl, by go_grown, rfl⟩
  case round =>
    obtain ⟨k, hk, hkm, rfl, hB, hrun⟩ := hrel
    have HR := Lib.hid hrun
    clear hrun
    by_cases hlt : k < n
    · obtain ⟨b, off, rfl, hblt, hcell⟩ := SlL.at_ (HX.out.below hB) (by have := HN.out; omega)
      obtain ⟨x, hx⟩ := at_some (show k < xs.length by rw [HN.out]; exact hlt)
      obtain ⟨c0, c1⟩ := hcell k x hx
      have HXK := Lib.hid hx
      clear hcell hx
      by_cases hlt' : k < m
      · obtain ⟨b', off', rfl, hblt', hcell'⟩ := SlL.at_ (HY.out.below hB) (by have := HM.out; omega)
        obtain ⟨y, hy⟩ := at_some (show k < ys.length by rw [HM.out]; exact hlt')
        have HR2 := Lib.hid (HR.out.trans (by rw [drop_cons HXK.out, drop_cons hy] : cmpP (xs.drop k) (ys.drop k) = cmpP (x :: xs.drop (k + 1)) (y :: ys.drop (k + 1))))
        obtain ⟨d0, d1⟩ := hcell' k y hy
        have HO := order_any x y
        have hB1 := hB.alloc hB.size (.cells #[.int .i64 x.p, .int .i64 x.s] 65)
        have hB2 := hB1.alloc hB1.size (.cells #[.int .i64 y.p, .int .i64 y.s] 65)
        clear hcell' hy HR
        rcases ordS_ways x y with ⟨ho, h⟩ | ⟨ho, h⟩ | ⟨ho, rfl⟩
        · have HV := Lib.hid (HR2.out.trans (cmpP_lt _ _ h))
          rw [ho] at HO
          have HO1 := Lib.hid HO
          clear h HR2 ho HO
          obtain ⟨p, s⟩ := x
          obtain ⟨q, t⟩ := y
          dsimp only at c0 c1 d0 d1 HO1 hB1 hB2
          go_wp2_with (go_at_call 47; ((with_reducible refine (HO1.out _).mono ?_); rintro e w2 ⟨rfl, hb2⟩); have hB3 := hB2.trans (hb2.mono hB2.size); clear hb2)
          go_ret
          exact ⟨ret_int HV.out.symm, hB3⟩
        · have HV := Lib.hid (HR2.out.trans (cmpP_gt _ _ h))
          rw [ho] at HO
          have HO1 := Lib.hid HO
          clear h HR2 ho HO
          obtain ⟨p, s⟩ := x
          obtain ⟨q, t⟩ := y
          dsimp only at c0 c1 d0 d1 HO1 hB1 hB2
          go_wp2_with (go_at_call 47; ((with_reducible refine (HO1.out _).mono ?_); rintro e w2 ⟨rfl, hb2⟩); have hB3 := hB2.trans (hb2.mono hB2.size); clear hb2)
          go_ret
          exact ⟨ret_int HV.out.symm, hB3⟩
        · have HV := Lib.hid (HR2.out.trans (cmpP_eq _ _ _))
          rw [ho] at HO
          have HO1 := Lib.hid HO
          clear HR2 ho HO
          obtain ⟨p, s⟩ := x
          dsimp only at c0 c1 d0 d1 HO1 hB1 hB2
          go_wp2_with (go_at_call 47; ((with_reducible refine (HO1.out _).mono ?_); rintro e w2 ⟨rfl, hb2⟩); have hB3 := hB2.trans (hb2.mono hB2.size); clear hb2)
          go_roundw
          case rel => exact ⟨k + 1, by omega, by omega, by go_num, hB3, HV.out⟩
          case measure => simp [intOf]; omega
      · obtain rfl : k = m := by omega
        have HV := Lib.hid (HR.out.trans (by rw [drop_cons HXK.out, drop_none (xs := ys) (by rw [HM.out]; exact Nat.le_refl _)]; rfl : cmpP (xs.drop k) (ys.drop k) = 1))
        have hB1 := hB.alloc hB.size (.cells #[.int .i64 x.p, .int .i64 x.s] 65)
        clear HR
        obtain ⟨p, s⟩ := x
        dsimp only at c0 c1 hB1
        go_wp2_with fail
        go_ret
        exact ⟨ret_int HV.out.symm, hB1⟩
    · obtain rfl : k = n := by omega
      by_cases hlt' : k < m
      · have HV := Lib.hid (HR.out.trans (by obtain ⟨y, hy⟩ := at_some (show k < ys.length by rw [HM.out]; exact hlt'); rw [drop_cons hy, drop_none (xs := xs) (by rw [HN.out]; exact Nat.le_refl _)]; rfl : cmpP (xs.drop k) (ys.drop k) = -1))
        clear HR
        go_wp2_with fail
        go_ret
        exact ⟨ret_int HV.out.symm, hB⟩
      · obtain rfl : k = m := by omega
        have HV := Lib.hid (HR.out.trans (by rw [drop_none (by rw [HN.out]; exact Nat.le_refl _), drop_none (by rw [HM.out]; exact Nat.le_refl _)]; rfl : cmpP (xs.drop k) (ys.drop k) = 0))
        clear HR
        go_wp2_with fail
        go_ret
        exact ⟨ret_int HV.out.symm, hB⟩

def orderV (xs ys : List Sl) : Int := if placeB xs && placeB ys then cmpP xs ys else 0
set_option maxHeartbeats 1000000 in
theorem iorder_any (A A' : Option Addr) (c c' : Nat) (xs ys : List Sl) (w : World) (hx : SlL w A xs) (hy : SlL w A' ys) (hl : xs.length ≤ maxLen) (hl' : ys.length ≤ maxLen) :
    Calls Try.prog 23 #[.slice A xs.length c, .slice A' ys.length c'] w fun e w' => e = .returned (.int .i64 (orderV xs ys)) ∧ Below w.heap.size w w' := by
  have k1 := fun A c w h => iplace_any A c xs w h hl
  have k2 := fun A c w h => iplace_any A c ys w h hl'
  have K3 := Lib.hid (fun A c A' c' w h h' => cmpFunc_any A A' c c' xs ys w h h' hl hl')
  have hv : orderV xs ys = if placeB xs && placeB ys then cmpP xs ys else 0 := rfl
  have HX := Lib.hid hx
  have HY := Lib.hid hy
  obtain ⟨n, hn⟩ : ∃ n, xs.length = n := ⟨_, rfl⟩
  obtain ⟨m, hm⟩ : ∃ m, ys.length = m := ⟨_, rfl⟩
  rw [hn] at k1 K3 ⊢
  rw [hm] at k2 K3 ⊢
  clear hx hy hl hl' hn hm
  cases hp : placeB xs
  · rw [hp] at k1 hv
    have K1 := Lib.hid k1
    have HV := Lib.hid hv
    clear k1 k2 hp hv
    go_enter Try.func23, Try.ntmps23
    go_wp2_with (go_at_call 20; ((with_reducible refine (K1.out _ _ _ HX.out).mono ?_); rintro e w1 ⟨rfl, hb⟩); have HB1 := Lib.hid (hb); clear hb)
    go_ret
    exact ⟨ret_int HV.out.symm, HB1.out⟩
  · rw [hp] at k1 hv
    have K1 := Lib.hid k1
    clear k1 hp
    cases hq : placeB ys
    · rw [hq] at k2 hv
      have K2 := Lib.hid k2
      have HV := Lib.hid hv
      clear k2 hq hv
      go_enter Try.func23, Try.ntmps23
      go_wp2_with (first
        | (go_at_call 20; ((with_reducible refine (K1.out _ _ _ HX.out).mono ?_); rintro e w1 ⟨rfl, hb⟩); have HB1 := Lib.hid (hb); clear hb)
        | (go_at_call 20; ((with_reducible refine (K2.out _ _ _ (HY.out.below HB1.out)).mono ?_); rintro e w2 ⟨rfl, hb⟩); have HB2 := Lib.hid (more HB1.out (Nat.le_refl _) hb); clear hb))
      go_ret
      exact ⟨ret_int HV.out.symm, HB2.out⟩
    · rw [hq] at k2 hv
      have K2 := Lib.hid k2
      have HV := Lib.hid hv
      clear k2 hq hv
      go_enter Try.func23, Try.ntmps23
      go_wp2_with (first
        | (go_at_call 20; ((with_reducible refine (K1.out _ _ _ HX.out).mono ?_); rintro e w1 ⟨rfl, hb⟩); have HB1 := Lib.hid (hb); clear hb)
        | (go_at_call 20; ((with_reducible refine (K2.out _ _ _ (HY.out.below HB1.out)).mono ?_); rintro e w2 ⟨rfl, hb⟩); have HB2 := Lib.hid (more HB1.out (Nat.le_refl _) hb); clear hb))
      refine (K3.out _ _ _ _ _ (HX.out.below HB2.out) (HY.out.below HB2.out)).mono ?_
      rintro e w3 ⟨rfl, hb⟩
      have HB3 := Lib.hid (more HB2.out (Nat.le_refl _) hb)
      clear hb
      go_wp2_with fail
      go_ret
      exact ⟨ret_int HV.out.symm, HB3.out⟩
set_option maxHeartbeats 1000000 in
theorem sorder_any (A A' : Option Addr) (c c' : Nat) (xs ys : List Sl) (w : World) (hx : SlL w A xs) (hy : SlL w A' ys) (hl : xs.length ≤ maxLen) (hl' : ys.length ≤ maxLen) :
    Calls Try.prog 22 #[.slice A xs.length c, .slice A' ys.length c'] w fun e w' => e = .returned (.int .i64 (orderV xs ys)) ∧ Below w.heap.size w w' := by
  have k1 := fun A c w h => vplace_any A c xs w h hl
  have k2 := fun A c w h => vplace_any A c ys w h hl'
  have K3 := Lib.hid (fun A c A' c' w h h' => cmpPlaces_any A A' c c' xs ys w h h' hl hl')
  have hv : orderV xs ys = if placeB xs && placeB ys then cmpP xs ys else 0 := rfl
  have HX := Lib.hid hx
  have HY := Lib.hid hy
  obtain ⟨n, hn⟩ : ∃ n, xs.length = n := ⟨_, rfl⟩
  obtain ⟨m, hm⟩ : ∃ m, ys.length = m := ⟨_, rfl⟩
  rw [hn] at k1 K3 ⊢
  rw [hm] at k2 K3 ⊢
  clear hx hy hl hl' hn hm
  cases hp : placeB xs
  · rw [hp] at k1 hv
    have K1 := Lib.hid k1
    have HV := Lib.hid hv
    clear k1 k2 hp hv
    go_enter Try.func22, Try.ntmps22
    go_wp2_with (go_at_call 33; ((with_reducible refine (K1.out _ _ _ HX.out).mono ?_); rintro e w1 ⟨rfl, hb⟩); have HB1 := Lib.hid (hb); clear hb)
    go_ret
    exact ⟨ret_int HV.out.symm, HB1.out⟩
  · rw [hp] at k1 hv
    have K1 := Lib.hid k1
    clear k1 hp
    cases hq : placeB ys
    · rw [hq] at k2 hv
      have K2 := Lib.hid k2
      have HV := Lib.hid hv
      clear k2 hq hv
      go_enter Try.func22, Try.ntmps22
      go_wp2_with (first
        | (go_at_call 33; ((with_reducible refine (K1.out _ _ _ HX.out).mono ?_); rintro e w1 ⟨rfl, hb⟩); have HB1 := Lib.hid (hb); clear hb)
        | (go_at_call 33; ((with_reducible refine (K2.out _ _ _ (HY.out.below HB1.out)).mono ?_); rintro e w2 ⟨rfl, hb⟩); have HB2 := Lib.hid (more HB1.out (Nat.le_refl _) hb); clear hb))
      go_ret
      exact ⟨ret_int HV.out.symm, HB2.out⟩
    · rw [hq] at k2 hv
      have K2 := Lib.hid k2
      have HV := Lib.hid hv
      clear k2 hq hv
      go_enter Try.func22, Try.ntmps22
      go_wp2_with (first
        | (go_at_call 33; ((with_reducible refine (K1.out _ _ _ HX.out).mono ?_); rintro e w1 ⟨rfl, hb⟩); have HB1 := Lib.hid (hb); clear hb)
        | (go_at_call 33; ((with_reducible refine (K2.out _ _ _ (HY.out.below HB1.out)).mono ?_); rintro e w2 ⟨rfl, hb⟩); have HB2 := Lib.hid (more HB1.out (Nat.le_refl _) hb); clear hb))
      refine (K3.out _ _ _ _ _ (HX.out.below HB2.out) (HY.out.below HB2.out)).mono ?_
      rintro e w3 ⟨rfl, hb⟩
      have HB3 := Lib.hid (more HB2.out (Nat.le_refl _) hb)
      clear hb
      go_wp2_with fail
      go_ret
      exact ⟨ret_int HV.out.symm, HB3.out⟩
end Go.Proofs.Ytegdpdafaimmoaa
