/- Rules: whether a row of them is valid, in both texts. -/
import Derived.Test.YtmfibedcloknlaaGreatDoorRul7
import Derived.Test.YtmfibedcloknlaaGreatDoorRul3
namespace Go.Proofs.YtmfibedcloknlaaGreatDoor
open Go.Joins Go.ChangeShapes Go.WideShapes Go.ChangeAt Go.RowKit Go.Deep
set_option linter.unusedVariables false
set_option linter.unusedSimpArgs false

def rulesB (xs : List Ru) : Bool := decide (xs.length ≤ 12) && xs.all ruleB
set_option maxHeartbeats 1000000 in
theorem vrules_any (A : Option Addr) (c n : Nat) (xs : List Ru) (w : World) (hx : RuL w A xs) (hn : xs.length = n) (hl : n ≤ maxLen) :
    Calls Tryz.prog 38 #[.slice A n c] w fun e w' => e = .returned (.bool (rulesB xs)) ∧ Below w.heap.size w w' := by
  unfold maxLen at hl
  have hv : rulesB xs = (decide (n ≤ 12) && xs.all ruleB) := by unfold rulesB; rw [hn]
  have HN := Lib.hid hn
  have HX := Lib.hid hx
  clear hx hn
  by_cases h12 : n ≤ 12
  · have HV := Lib.hid (hv.trans (by rw [decide_eq_true h12, Bool.true_and]))
    clear hv
    go_enter Tryz.func38, Tryz.ntmps38
    go_wp2_with fail
    go_loopw [3] (fun i w2 => ∃ k : Nat, k ≤ n ∧ i = .int .i64 k ∧ Below w.heap.size w w2 ∧ xs.all ruleB = (xs.drop k).all ruleB) (fun i _ => n - (intOf i).toNat)
    case atStart => exact ⟨0, by omega, rfl, by go_grown, rfl⟩
    case round =>
      obtain ⟨k, hk, rfl, hB, hrun⟩ := hrel
      have HR := Lib.hid hrun
      clear hrun
      by_cases hlt : k < n
      · obtain ⟨b, off, rfl, hblt, hcell⟩ := RuL.at_ (HX.out.below hB) (by have := HN.out; omega)
        obtain ⟨x, hx⟩ := at_some (show k < xs.length by rw [HN.out]; exact hlt)
        have HR2 := Lib.hid (HR.out.trans (by rw [drop_cons hx]; rfl : (xs.drop k).all ruleB = (ruleB x && (xs.drop (k + 1)).all ruleB)))
        obtain ⟨c0, c1, c2, c3, c4, c5, c6, c7⟩ := hcell k x hx
        clear hcell hx
        have hs := vrule_any x
        generalize ruleB x = v at hs HR2
        have HS1 := Lib.hid hs
        clear hs
        cases v
        · have hv2 := Lib.hid (HV.out.trans (HR2.out.trans (Bool.false_and _)))
          clear HR2 HR
          go_wp2_with (go_at_call 47; ((with_reducible refine (HS1.out _).mono ?_); rintro e w' ⟨rfl, hb⟩); replace hB := more hB (Nat.le_refl _) hb; clear hb)
          go_ret
          exact ⟨ret_bool hv2.out.symm, hB⟩
        · clear HR
          go_wp2_with (go_at_call 47; ((with_reducible refine (HS1.out _).mono ?_); rintro e w' ⟨rfl, hb⟩); replace hB := more hB (Nat.le_refl _) hb; clear hb)
          go_roundw
          case rel => exact ⟨k + 1, by omega, by go_num, hB, HR2.out.trans (Bool.true_and _)⟩
          case measure => simp [intOf]; omega
      · have hv2 := Lib.hid (HV.out.trans (HR.out.trans (by rw [drop_none (by rw [HN.out]; omega)]; rfl : (xs.drop k).all ruleB = true)))
        go_wp2_with fail
        go_ret
        exact ⟨ret_bool hv2.out.symm, hB⟩
  · have HV := Lib.hid (hv.trans (by rw [decide_eq_false h12, Bool.false_and]))
    clear hv
    go_enter Tryz.func38, Tryz.ntmps38
    go_wp2_with fail
    go_ret
    exact ⟨ret_bool HV.out.symm, by go_grown⟩

set_option maxHeartbeats 1000000 in
theorem notOk_any (x : Ru) (bx : Nat) (w : World) (hbx : w.cell? ⟨bx, 0, none⟩ = some (.func (.func 43) #[] #[])) :
    Calls Tryz.prog 79 #[.agg #[.int .i64 x.t, .int .i64 x.a, .int .i64 x.nm, .int .i64 x.v.k, .int .i64 x.v.n, .string x.v.s, .int .i64 x.l, .int .i64 x.g], .pointer (some ⟨bx, 0, none⟩)] w fun e w' => e = .returned (.bool (!ruleB x)) ∧ Below w.heap.size w w' := by
  have k := irule_any x
  generalize ruleB x = v at k ⊢
  have K := Lib.hid k
  have hlt := World.block_lt_of_cell? w _ hbx
  simp at hlt
  clear k
  obtain ⟨t, a, nm, ⟨vk, vn, vs⟩, l, g⟩ := x
  dsimp only at K ⊢
  go_enter Tryz.func79, Tryz.ntmps79
  go_wp2_with fail
  refine (K.out _).mono ?_
  rintro e w1 ⟨rfl, hb⟩
  go_wp2_with fail
  go_ret
  exact ⟨rfl, front (W0 := _) (by go_grown) (by simp <;> omega) hb⟩
def IdxX (v : Bool) (w : World) (e : Ending) (w' : World) : Prop := ∃ r : Int, e = .returned (.int .i64 r) ∧ decide (0 ≤ r) = v ∧ Below w.heap.size w w'
set_option maxHeartbeats 1000000 in
theorem index_any (A : Option Addr) (c n bx : Nat) (xs : List Ru) (w : World) (hx : RuL w A xs) (hn : xs.length = n) (hl : n ≤ maxLen) (hbx : w.cell? ⟨bx, 0, none⟩ = some (.func (.func 43) #[] #[])) :
    Calls Tryz.prog 107 #[.slice A n c, .func (.func 79) #[] #[.pointer (some ⟨bx, 0, none⟩)]] w (IdxX (!xs.all ruleB) w) := by
  unfold maxLen at hl
  have HN := Lib.hid hn
  have HX := Lib.hid hx
  have HBX := Lib.hid hbx
  have hblx := World.block_lt_of_cell? w _ hbx
  simp at hblx
  clear hx hn hbx
  go_enter Tryz.func107, Tryz.ntmps107
  go_wp2_with fail
  go_loopw [8] (fun i w2 => ∃ k : Nat, k ≤ n ∧ i = .int .i64 k ∧ Below w.heap.size w w2 ∧ xs.all ruleB = (xs.drop k).all ruleB) (fun i _ => n - (intOf i).toNat)
  case atStart => exact ⟨0, by omega, rfl, by go_grown, rfl⟩
  case round =>
    obtain ⟨k, hk, rfl, hB, hrun⟩ := hrel
    have HR := Lib.hid hrun
    clear hrun
    by_cases hlt : k < n
    · obtain ⟨b, off, rfl, hblt, hcell⟩ := RuL.at_ (HX.out.below hB) (by have := HN.out; omega)
      obtain ⟨x, hx⟩ := at_some (show k < xs.length by rw [HN.out]; exact hlt)
      have HR2 := Lib.hid (HR.out.trans (by rw [drop_cons hx]; rfl : (xs.drop k).all ruleB = (ruleB x && (xs.drop (k + 1)).all ruleB)))
      obtain ⟨c0, c1, c2, c3, c4, c5, c6, c7⟩ := hcell k x hx
      clear hcell hx
      have hs := notOk_any x bx wr ((hB.cell (p := ⟨bx, 0, none⟩) hblx).trans HBX.out)
      generalize ruleB x = v at hs HR2
      have HS1 := Lib.hid hs
      clear hs
      cases v
      · have hv2 := Lib.hid (HR2.out.trans (Bool.false_and _))
        clear HR2 HR
        go_wp2_with fail
        refine HS1.out.mono ?_
        rintro e w2 ⟨rfl, hb⟩
        replace hB := more hB (Nat.le_refl _) hb
        clear hb
        go_wp2_with fail
        go_ret
        exact ⟨k, rfl, by rw [hv2.out]; simp, hB⟩
      · clear HR
        go_wp2_with fail
        refine HS1.out.mono ?_
        rintro e w2 ⟨rfl, hb⟩
        replace hB := more hB (Nat.le_refl _) hb
        clear hb
        go_wp2_with fail
        go_roundw
        case rel => exact ⟨k + 1, by omega, by go_num, hB, HR2.out.trans (Bool.true_and _)⟩
        case measure => simp [intOf]; omega
    · have hv2 := Lib.hid (HR.out.trans (by rw [drop_none (by rw [HN.out]; omega)]; rfl : (xs.drop k).all ruleB = true))
      go_wp2_with fail
      go_ret
      exact ⟨-1, rfl, by rw [hv2.out]; simp, hB⟩
set_option maxHeartbeats 400000 in
theorem contains_any (A : Option Addr) (c n bx : Nat) (xs : List Ru) (w : World) (hx : RuL w A xs) (hn : xs.length = n) (hl : n ≤ maxLen) (hbx : w.cell? ⟨bx, 0, none⟩ = some (.func (.func 43) #[] #[])) :
    Calls Tryz.prog 78 #[.slice A n c, .func (.func 79) #[] #[.pointer (some ⟨bx, 0, none⟩)]] w fun e w' => e = .returned (.bool (!xs.all ruleB)) ∧ Below w.heap.size w w' := by
  have K := Lib.hid (index_any A c n bx xs w hx hn hl hbx)
  generalize (!xs.all ruleB) = v at K ⊢
  clear hx hn hbx
  go_enter Tryz.func78, Tryz.ntmps78
  go_wp2_with fail
  refine K.out.mono ?_
  rintro e w1 ⟨r, rfl, hr, hb⟩
  have HB := Lib.hid hb
  clear hb
  cases v
  all_goals
    have hr2 : (decide (0 ≤ r)) = _ := hr
    go_wp2_with fail
    go_ret
    exact ⟨rfl, HB.out⟩
set_option maxHeartbeats 400000 in
theorem allOk_any (A : Option Addr) (c n : Nat) (xs : List Ru) (w : World) (hx : RuL w A xs) (hn : xs.length = n) (hl : n ≤ maxLen) :
    Calls Tryz.prog 42 #[.slice A n c, .func (.func 43) #[] #[]] w fun e w' => e = .returned (.bool (xs.all ruleB)) ∧ Below w.heap.size w w' := by
  have HB0 := Lib.hid (Below.alloc (Below.refl w.heap.size w) (Nat.le_refl _) (.cells #[.func (.func 43) #[] #[]] 84))
  have K := Lib.hid (contains_any A c n w.heap.size xs _ (hx.below HB0.out) hn hl (by go_simp))
  generalize xs.all ruleB = v at K ⊢
  clear hx hn
  go_enter Tryz.func42, Tryz.ntmps42
  go_wp2_with fail
  refine K.out.mono ?_
  rintro e w1 ⟨rfl, hb⟩
  go_wp2_with fail
  go_ret
  exact ⟨by simp, HB0.out.trans (hb.mono HB0.out.size)⟩
set_option maxHeartbeats 400000 in
theorem irules_any (A : Option Addr) (c n : Nat) (xs : List Ru) (w : World) (hx : RuL w A xs) (hn : xs.length = n) (hl : n ≤ maxLen) :
    Calls Tryz.prog 12 #[.slice A n c] w fun e w' => e = .returned (.bool (rulesB xs)) ∧ Below w.heap.size w w' := by
  have hv : rulesB xs = (decide (n ≤ 12) && xs.all ruleB) := by unfold rulesB; rw [hn]
  have K := Lib.hid (allOk_any A c n xs w hx hn hl)
  unfold maxLen at hl
  generalize xs.all ruleB = v at K hv
  by_cases h12 : n ≤ 12
  · have hd : decide ((n : Int) ≤ 12) = true := by simp; omega
    have h12' : (n : Int) ≤ 12 := by omega
    have HV := Lib.hid (hv.trans (by rw [decide_eq_true h12, Bool.true_and]))
    clear hv hx hn h12
    go_enter Tryz.func12, Tryz.ntmps12
    go_wp2_with (go_at_call 42; ((with_reducible refine K.out.mono ?_); rintro e w' ⟨rfl, hb⟩))
    go_ret
    exact ⟨ret_bool HV.out.symm, hb⟩
  · have hd : decide ((n : Int) ≤ 12) = false := by simp; omega
    have HV := Lib.hid (hv.trans (by rw [decide_eq_false h12, Bool.false_and]))
    clear hv hx hn
    go_enter Tryz.func12, Tryz.ntmps12
    go_wp2_with fail
    go_ret
    exact ⟨ret_bool HV.out.symm, by go_grown⟩
end Go.Proofs.YtmfibedcloknlaaGreatDoor
