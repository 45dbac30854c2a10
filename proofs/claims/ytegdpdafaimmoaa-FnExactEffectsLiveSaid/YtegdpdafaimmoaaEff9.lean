/- The program's test for one place, and where it is. -/
import Derived.Test.YtegdpdafaimmoaaEfk2
import Derived.Test.YtegdpdafaimmoaaPlc9
namespace Go.Proofs.Ytegdpdafaimmoaa
open Go.Joins Go.ChangeShapes Go.WideShapes Go.ChangeAt Go.RowKit Go.Deep
set_option linter.unusedVariables false
set_option linter.unusedSimpArgs false

set_option maxHeartbeats 1000000 in
theorem eqTwo_any (A A' : Option Addr) (c c' n m : Nat) (xs ys : List Sl) (w : World) (hx : SlL w A xs) (hy : SlL w A' ys) (hn : xs.length = n) (hm : ys.length = m) (hl : n ≤ maxLen) (hl' : m ≤ maxLen) :
    Calls Try.prog 49 #[.slice A n c, .slice A' m c'] w fun e w' => e = .returned (.bool (decide (xs = ys))) ∧ Below w.heap.size w w' := by
  by_cases he : n = m
  · subst he
    rw [← eqSl_iff]
    exact sEqual_any A A' c c' n xs ys w hx hy hn hm hl
  · have hne : decide (xs = ys) = false := by
      rw [← eqSl_iff]
      exact eqSl_len xs ys (by omega)
    rw [hne]
    have h1 : ((n : Int) == (m : Int)) = false := by simp; omega
    have h2 : decide ((n : Int) = (m : Int)) = false := by simp; omega
    have h3 : ¬ ((n : Int) = (m : Int)) := by omega
    clear hx hy hn hm hne
    unfold maxLen at hl hl'
    go_enter Try.func49, Try.ntmps49
    go_wp2_with fail
    go_ret
    exact ⟨rfl, Below.refl _ _⟩
set_option maxHeartbeats 1000000 in
theorem gone_any (A A' : Option Addr) (c c' n m bs : Nat) (xs ys : List Sl) (w : World) (hx : SlL w A xs) (hy : SlL w A' ys) (hn : xs.length = n) (hm : ys.length = m) (hl : n ≤ maxLen) (hl' : m ≤ maxLen) (hb : w.cell? ⟨bs, 1, none⟩ = some (.slice A' m c')) :
    Calls Try.prog 58 #[.slice A n c, .pointer (some ⟨bs, 0, none⟩)] w fun e w' => e = .returned (.bool (decide (xs = ys))) ∧ Below w.heap.size w w' := by
  have K := Lib.hid (eqTwo_any A A' c c' n m xs ys w hx hy hn hm hl hl')
  clear hx hy hn hm hl hl'
  go_enter Try.func58, Try.ntmps58
  go_wp2_with fail
  refine K.out.mono ?_
  rintro e w' ⟨rfl, hb⟩
  have HB := Lib.hid hb
  clear hb
  go_wp2_with fail
  go_ret
  exact ⟨rfl, HB.out⟩
set_option maxHeartbeats 2000000 in
theorem goneAt_any (A A' : Option Addr) (c c' n m bs : Nat) (xs : List (List Sl)) (y : List Sl) (w : World) (hx : PsL w A xs) (hy : SlL w A' y) (hn : xs.length = n) (hm : y.length = m) (hl : n ≤ 1048576) (hs : ∀ x ∈ xs, x.length ≤ maxLen) (hyl : m ≤ maxLen) (hb : w.cell? ⟨bs, 1, none⟩ = some (.slice A' m c')) :
    Calls Try.prog 70 #[.slice A n c, .func (.func 58) #[] #[.pointer (some ⟨bs, 0, none⟩)]] w fun e w' => e = .returned (.int .i64 (posP y xs 0)) ∧ Below w.heap.size w w' := by
  have hsl := World.block_lt_of_cell? w _ hb
  have HN := Lib.hid hn
  have HX := Lib.hid hx
  have HS := Lib.hid hs
  have K0 := Lib.hid (fun A0 c0 (x : List Sl) wr (hbw : Below w.heap.size w wr) h1 h3 => gone_any A0 A' c0 c' x.length m bs x y wr h1 (hy.below hbw) rfl hm h3 hyl ((hbw.cell (p := ⟨bs, 1, none⟩) hsl).trans hb))
  clear hx hy hn hs hyl hm hb
  go_enter Try.func70, Try.ntmps70
  go_wp2_with fail
  go_loopw [8] (fun i w2 => ∃ k : Nat, k ≤ n ∧ i = .int .i64 k ∧ Hid (Below w.heap.size w w2) ∧ Hid (posP y xs 0 = posP y (xs.drop k) k)) (fun i _ => n - (intOf i).toNat)
  case atStart => exact ⟨0, by omega, rfl, Lib.hid (Below.refl _ _), Lib.hid rfl⟩
  case round =>
    obtain ⟨k, hk, rfl, HB, HR⟩ := hrel
    by_cases hlt : k < n
    · obtain ⟨b, off, rfl, hblt, hcell⟩ := (HX.out.below HB.out) (by have := HN.out; omega)
      obtain ⟨x, hx⟩ := at_some (show k < xs.length by rw [HN.out]; exact hlt)
      obtain ⟨A0, c0, e0, hat⟩ := hcell k x hx
      have hm0 := HS.out x (List.mem_of_getElem? hx)
      have HR2 := Lib.hid (HR.out.trans (congrArg (fun l => posP y l k) (drop_cons hx)))
      have hi1 : (0 : Int) ≤ (k : Int) := by omega
      have hi2 : (k : Int) < (n : Int) := by omega
      have k1 := K0.out A0 c0 x wr HB.out hat hm0
      by_cases he : x = y
      · rw [decide_eq_true he] at k1
        have HV := Lib.hid (HR2.out.trans (show posP y (x :: xs.drop (k + 1)) k = (k : Int) by rw [posP, if_pos he]))
        have K1 := Lib.hid k1
        clear k1 he hx hcell hat hm0 HR HR2
        go_wp2_with fail
        refine K1.out.mono ?_
        rintro e w2 ⟨rfl, hb⟩
        have HB2 := Lib.hid (more HB.out (Nat.le_refl _) hb)
        clear hb
        go_wp2_with fail
        go_ret
        exact ⟨ret_int HV.out.symm, HB2.out⟩
      · rw [decide_eq_false he] at k1
        have HV := Lib.hid (HR2.out.trans (show posP y (x :: xs.drop (k + 1)) k = posP y (xs.drop (k + 1)) (k + 1) by rw [posP, if_neg he]))
        have K1 := Lib.hid k1
        clear k1 he hx hcell hat hm0 HR HR2
        go_wp2_with fail
        refine K1.out.mono ?_
        rintro e w2 ⟨rfl, hb⟩
        have HB2 := Lib.hid (more HB.out (Nat.le_refl _) hb)
        clear hb
        go_wp2_with fail
        go_roundw
        case rel => exact ⟨k + 1, by omega, by go_num, HB2, HV⟩
        case measure => simp [intOf]; omega
    · obtain rfl : k = n := by omega
      have HV := Lib.hid (HR.out.trans (show posP y (xs.drop k) k = -1 by rw [List.drop_eq_nil_of_le (by rw [HN.out]; exact Nat.le_refl _)]; rfl))
      go_wp2_with fail
      go_ret
      exact ⟨ret_int HV.out.symm, HB.out⟩
end Go.Proofs.Ytegdpdafaimmoaa
