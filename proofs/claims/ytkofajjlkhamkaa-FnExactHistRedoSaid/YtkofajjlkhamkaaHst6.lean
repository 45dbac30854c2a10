/- Histories: whether they are valid, in both texts. -/
import Derived.Test.YtkofajjlkhamkaaHst3
namespace Go.Proofs.Ytkofajjlkhamkaa
open Go.Joins Go.ChangeShapes Go.WideShapes Go.ChangeAt Go.RowKit Go.Deep
set_option linter.unusedVariables false
set_option linter.unusedSimpArgs false

def stsB (xs : List (List Ce)) : Bool := decide (xs.length ≤ 6) && xs.all storeB
def histB (x : Hi) : Bool := storeB x.now && (decide ((x.back.length : Int) + x.ahead.length ≤ 6) && (x.back.all storeB && x.ahead.all storeB))
theorem histB_spec (x : Hi) : histB x = (storeB x.now && (stsB x.back && (stsB x.ahead && decide ((x.back.length : Int) + x.ahead.length ≤ 6)))) := by
  unfold histB stsB
  by_cases h : (x.back.length : Int) + x.ahead.length ≤ 6
  · rw [decide_eq_true h, decide_eq_true (show x.back.length ≤ 6 by omega), decide_eq_true (show x.ahead.length ≤ 6 by omega)]
    simp
  · rw [decide_eq_false h]
    simp
set_option maxHeartbeats 1000000 in
theorem vstores_any (A : Option Addr) (c n : Nat) (xs : List (List Ce)) (w : World) (hx : StL w A xs) (hn : xs.length = n) (hl : n ≤ maxLen) :
    Calls Try.prog 33 #[.slice A n c] w fun e w' => e = .returned (.bool (stsB xs)) ∧ Below w.heap.size w w' := by
  unfold maxLen at hl
  have hv : stsB xs = (decide (n ≤ 6) && xs.all storeB) := by unfold stsB; rw [hn]
  have HN := Lib.hid hn
  have HX := Lib.hid hx
  clear hx hn
  by_cases h12 : n ≤ 6
  · have HV := Lib.hid (hv.trans (by rw [decide_eq_true h12, Bool.true_and]))
    clear hv
    go_enter Try.func33, Try.ntmps33
    go_wp2_with fail
    go_loopw [3] (fun i w2 => ∃ k : Nat, k ≤ n ∧ i = .int .i64 k ∧ Below w.heap.size w w2 ∧ xs.all storeB = (xs.drop k).all storeB) (fun i _ => n - (intOf i).toNat)
    case atStart => exact ⟨0, by omega, rfl, by go_grown, rfl⟩
    case round =>
      obtain ⟨k, hk, rfl, hB, hrun⟩ := hrel
      have HR := Lib.hid hrun
      clear hrun
      by_cases hlt : k < n
      · obtain ⟨b, off, rfl, hblt, hcell⟩ := (HX.out.below hB) (by have := HN.out; omega)
        obtain ⟨x, hx⟩ := at_some (show k < xs.length by rw [HN.out]; exact hlt)
        have HR2 := Lib.hid (HR.out.trans (by rw [drop_cons hx]; rfl : (xs.drop k).all storeB = (storeB x && (xs.drop (k + 1)).all storeB)))
        obtain ⟨A0, c0, e0, hat, hm0, hc0⟩ := hcell k x hx
        have hs := vstore_any A0 c0 x.length x wr hat rfl hm0
        clear hcell hx hat
        generalize storeB x = v at hs HR2
        have HS1 := Lib.hid hs
        clear hs
        cases v
        · have hv2 := Lib.hid (HV.out.trans (HR2.out.trans (Bool.false_and _)))
          clear HR2 HR
          go_wp2_with (go_at_call 32; ((with_reducible refine HS1.out.mono ?_); rintro e w' ⟨rfl, hb⟩); replace hB := more hB (Nat.le_refl _) hb; clear hb)
          go_ret
          exact ⟨ret_bool hv2.out.symm, hB⟩
        · clear HR
          go_wp2_with (go_at_call 32; ((with_reducible refine HS1.out.mono ?_); rintro e w' ⟨rfl, hb⟩); replace hB := more hB (Nat.le_refl _) hb; clear hb)
          go_roundw
          case rel => exact ⟨k + 1, by omega, by go_num, hB, HR2.out.trans (Bool.true_and _)⟩
          case measure => simp [intOf]; omega
      · have hv2 := Lib.hid (HV.out.trans (HR.out.trans (by rw [drop_none (by rw [HN.out]; omega)]; rfl : (xs.drop k).all storeB = true)))
        go_wp2_with fail
        go_ret
        exact ⟨ret_bool hv2.out.symm, hB⟩
  · have HV := Lib.hid (hv.trans (by rw [decide_eq_false h12, Bool.false_and]))
    clear hv
    go_enter Try.func33, Try.ntmps33
    go_wp2_with fail
    go_ret
    exact ⟨ret_bool HV.out.symm, by go_grown⟩
set_option maxHeartbeats 1000000 in
theorem notStore_any (A : Option Addr) (c n : Nat) (x : List Ce) (bx : Nat) (w : World) (hx : CeL w A x) (hn : x.length = n) (hl : n ≤ maxLen) (hbx : w.cell? ⟨bx, 0, none⟩ = some (.func (.func 36) #[] #[])) :
    Calls Try.prog 57 #[.slice A n c, .pointer (some ⟨bx, 0, none⟩)] w fun e w' => e = .returned (.bool (!storeB x)) ∧ Below w.heap.size w w' := by
  have k := istore_any A c n x w hx hn hl
  generalize storeB x = v at k ⊢
  have K := Lib.hid k
  have hlt := World.block_lt_of_cell? w _ hbx
  simp at hlt
  clear k hx hn
  go_enter Try.func57, Try.ntmps57
  go_wp2_with fail
  refine K.out.mono ?_
  rintro e w1 ⟨rfl, hb⟩
  go_wp2_with fail
  go_ret
  exact ⟨rfl, hb⟩
def IdxX (v : Bool) (w : World) (e : Ending) (w' : World) : Prop := ∃ r : Int, e = .returned (.int .i64 r) ∧ decide (0 ≤ r) = v ∧ Below w.heap.size w w'
set_option maxHeartbeats 1000000 in
theorem index_any (A : Option Addr) (c n bx : Nat) (xs : List (List Ce)) (w : World) (hx : StL w A xs) (hn : xs.length = n) (hl : n ≤ maxLen) (hbx : w.cell? ⟨bx, 0, none⟩ = some (.func (.func 36) #[] #[])) :
    Calls Try.prog 74 #[.slice A n c, .func (.func 57) #[] #[.pointer (some ⟨bx, 0, none⟩)]] w (IdxX (!xs.all storeB) w) := by
  unfold maxLen at hl
  have HN := Lib.hid hn
  have HX := Lib.hid hx
  have HBX := Lib.hid hbx
  have hblx := World.block_lt_of_cell? w _ hbx
  simp at hblx
  clear hx hn hbx
  go_enter Try.func74, Try.ntmps74
  go_wp2_with fail
  go_loopw [8] (fun i w2 => ∃ k : Nat, k ≤ n ∧ i = .int .i64 k ∧ Below w.heap.size w w2 ∧ xs.all storeB = (xs.drop k).all storeB) (fun i _ => n - (intOf i).toNat)
  case atStart => exact ⟨0, by omega, rfl, by go_grown, rfl⟩
  case round =>
    obtain ⟨k, hk, rfl, hB, hrun⟩ := hrel
    have HR := Lib.hid hrun
    clear hrun
    by_cases hlt : k < n
    · obtain ⟨b, off, rfl, hblt, hcell⟩ := (HX.out.below hB) (by have := HN.out; omega)
      obtain ⟨x, hx⟩ := at_some (show k < xs.length by rw [HN.out]; exact hlt)
      have HR2 := Lib.hid (HR.out.trans (by rw [drop_cons hx]; rfl : (xs.drop k).all storeB = (storeB x && (xs.drop (k + 1)).all storeB)))
      obtain ⟨A0, c0, e0, hat, hm0, hc0⟩ := hcell k x hx
      have hs := notStore_any A0 c0 x.length x bx wr hat rfl hm0 ((hB.cell (p := ⟨bx, 0, none⟩) hblx).trans HBX.out)
      clear hcell hx hat
      generalize storeB x = v at hs HR2
      have HS1 := Lib.hid hs
      clear hs
      cases v
      · have hv2 := Lib.hid (HR2.out.trans (Bool.false_and _))
        clear HR2 HR
        go_wp2_with fail
        refine HS1.out.mono ?_
        rintro e w2 ⟨rfl, hb⟩
        replace hB := more hB (Nat.le_refl _) hb
        clear hb
        go_wp2_with fail
        go_ret
        exact ⟨k, rfl, by rw [hv2.out]; simp, hB⟩
      · clear HR
        go_wp2_with fail
        refine HS1.out.mono ?_
        rintro e w2 ⟨rfl, hb⟩
        replace hB := more hB (Nat.le_refl _) hb
        clear hb
        go_wp2_with fail
        go_roundw
        case rel => exact ⟨k + 1, by omega, by go_num, hB, HR2.out.trans (Bool.true_and _)⟩
        case measure => simp [intOf]; omega
    · have hv2 := Lib.hid (HR.out.trans (by rw [drop_none (by rw [HN.out]; omega)]; rfl : (xs.drop k).all storeB = true))
      go_wp2_with fail
      go_ret
      exact ⟨-1, rfl, by rw [hv2.out]; simp, hB⟩
set_option maxHeartbeats 400000 in
theorem contains_any (A : Option Addr) (c n bx : Nat) (xs : List (List Ce)) (w : World) (hx : StL w A xs) (hn : xs.length = n) (hl : n ≤ maxLen) (hbx : w.cell? ⟨bx, 0, none⟩ = some (.func (.func 36) #[] #[])) :
    Calls Try.prog 56 #[.slice A n c, .func (.func 57) #[] #[.pointer (some ⟨bx, 0, none⟩)]] w fun e w' => e = .returned (.bool (!xs.all storeB)) ∧ Below w.heap.size w w' := by
  have K := Lib.hid (index_any A c n bx xs w hx hn hl hbx)
  generalize (!xs.all storeB) = v at K ⊢
  clear hx hn hbx
  go_enter Try.func56, Try.ntmps56
  go_wp2_with fail
  refine K.out.mono ?_
  rintro e w1 ⟨r, rfl, hr, hb⟩
  have HB := Lib.hid hb
  clear hb
  cases v
  all_goals
    have hr2 : (decide (0 ≤ r)) = _ := hr
    go_wp2_with fail
    go_ret
    exact ⟨rfl, HB.out⟩
set_option maxHeartbeats 400000 in
theorem allStores_any (A : Option Addr) (c n : Nat) (xs : List (List Ce)) (w : World) (hx : StL w A xs) (hn : xs.length = n) (hl : n ≤ maxLen) :
    Calls Try.prog 37 #[.slice A n c, .func (.func 36) #[] #[]] w fun e w' => e = .returned (.bool (xs.all storeB)) ∧ Below w.heap.size w w' := by
  have HB0 := Lib.hid (Below.alloc (Below.refl w.heap.size w) (Nat.le_refl _) (.cells #[.func (.func 36) #[] #[]] 55))
  have K := Lib.hid (contains_any A c n w.heap.size xs _ (hx.below HB0.out) hn hl (by go_simp))
  generalize xs.all storeB = v at K ⊢
  clear hx hn
  go_enter Try.func37, Try.ntmps37
  go_wp2_with fail
  refine K.out.mono ?_
  rintro e w1 ⟨rfl, hb⟩
  go_wp2_with fail
  go_ret
  exact ⟨by simp, HB0.out.trans (hb.mono HB0.out.size)⟩
set_option maxHeartbeats 2000000 in
theorem svhist_any (A0 A1 A2 : Option Addr) (n m q c0 c1 c2 : Nat) (x : Hi) (w : World) (hx : CeL w A0 x.now) (hy : StL w A1 x.back) (hz : StL w A2 x.ahead) (hn : x.now.length = n) (hm : x.back.length = m) (hq : x.ahead.length = q) (l0 : n ≤ maxLen) (l1 : m ≤ 1048576) (l2 : q ≤ 1048576) :
    Calls Try.prog 16 #[.agg #[.slice A0 n c0, .slice A1 m c1, .slice A2 q c2]] w fun e w' => e = .returned (.bool (histB x)) ∧ Below w.heap.size w w' := by
  have HB0 := Lib.hid (show Below w.heap.size w (w.alloc (.cells #[.slice A0 n c0, .slice A1 m c1, .slice A2 q c2] 30)) by go_grown)
  have HX := Lib.hid hx
  have HY := Lib.hid hy
  have HZ := Lib.hid hz
  have k0 := fun w h => vstore_any A0 c0 n x.now w h hn l0
  have k1 := fun w h => vstores_any A1 c1 m x.back w h hm (by unfold maxLen; omega)
  have k2 := fun w h => vstores_any A2 c2 q x.ahead w h hq (by unfold maxLen; omega)
  have hv := histB_spec x
  rw [hm, hq] at hv
  have e1 := IntWalk.i64_in ((m : Int) + q) (by omega)
  clear hx hy hz hn hm hq
  cases g0 : storeB x.now
  · rw [g0] at k0 hv
    have K0 := Lib.hid k0
    have HV := Lib.hid (hv.trans (Bool.false_and _))
    clear k0 k1 k2 hv g0
    go_enter Try.func16, Try.ntmps16
    go_wp2_with fail
    refine (K0.out _ (HX.out.below HB0.out)).mono ?_
    rintro e w1 ⟨rfl, hb⟩
    have HB1 := Lib.hid (front (w := w) (W0 := _) (by go_grown) (by simp <;> omega) hb)
    have c00 : w1.cell? ⟨w.heap.size, 0, none⟩ = some (.slice A0 n c0) := (hb.cell (p := ⟨w.heap.size, 0, none⟩) (by simp <;> omega)).trans (by go_simp)
    have c01 : w1.cell? ⟨w.heap.size, 1, none⟩ = some (.slice A1 m c1) := (hb.cell (p := ⟨w.heap.size, 1, none⟩) (by simp <;> omega)).trans (by go_simp)
    have c02 : w1.cell? ⟨w.heap.size, 2, none⟩ = some (.slice A2 q c2) := (hb.cell (p := ⟨w.heap.size, 2, none⟩) (by simp <;> omega)).trans (by go_simp)
    have f0 : ∀ o, w1.frozen? ⟨w.heap.size, o, none⟩ = false := fun o => (hb.frozen (p := ⟨w.heap.size, o, none⟩) (by simp <;> omega)).trans (by go_simp)
    have hz1 : w.heap.size < w1.heap.size := by have := hb.size; simp at this; omega
    clear hb
    go_wp2_with fail
    go_ret
    exact ⟨ret_bool HV.out.symm, HB1.out⟩
  rw [g0, Bool.true_and] at hv
  rw [g0] at k0
  have K0 := Lib.hid k0
  clear k0 g0
  cases g1 : stsB x.back
  · rw [g1] at k1 hv
    have K1 := Lib.hid k1
    have HV := Lib.hid (hv.trans (Bool.false_and _))
    clear k1 k2 hv g1
    go_enter Try.func16, Try.ntmps16
    go_wp2_with fail
    refine (K0.out _ (HX.out.below HB0.out)).mono ?_
    rintro e w1 ⟨rfl, hb⟩
    have HB1 := Lib.hid (front (w := w) (W0 := _) (by go_grown) (by simp <;> omega) hb)
    have c00 : w1.cell? ⟨w.heap.size, 0, none⟩ = some (.slice A0 n c0) := (hb.cell (p := ⟨w.heap.size, 0, none⟩) (by simp <;> omega)).trans (by go_simp)
    have c01 : w1.cell? ⟨w.heap.size, 1, none⟩ = some (.slice A1 m c1) := (hb.cell (p := ⟨w.heap.size, 1, none⟩) (by simp <;> omega)).trans (by go_simp)
    have c02 : w1.cell? ⟨w.heap.size, 2, none⟩ = some (.slice A2 q c2) := (hb.cell (p := ⟨w.heap.size, 2, none⟩) (by simp <;> omega)).trans (by go_simp)
    have f0 : ∀ o, w1.frozen? ⟨w.heap.size, o, none⟩ = false := fun o => (hb.frozen (p := ⟨w.heap.size, o, none⟩) (by simp <;> omega)).trans (by go_simp)
    have hz1 : w.heap.size < w1.heap.size := by have := hb.size; simp at this; omega
    clear hb
    go_wp2_with fail
    refine (K1.out _ (HY.out.below HB1.out)).mono ?_
    rintro e w2 ⟨rfl, hb⟩
    have HB2 := Lib.hid (more HB1.out (Nat.le_refl _) hb)
    replace c00 := (hb.cell (p := ⟨w.heap.size, 0, none⟩) (by first | omega | (simp; done) | (simp; omega))).trans c00
    replace c01 := (hb.cell (p := ⟨w.heap.size, 1, none⟩) (by first | omega | (simp; done) | (simp; omega))).trans c01
    replace c02 := (hb.cell (p := ⟨w.heap.size, 2, none⟩) (by first | omega | (simp; done) | (simp; omega))).trans c02
    replace f0 : ∀ o, w2.frozen? ⟨w.heap.size, o, none⟩ = false := fun o => (hb.frozen (p := ⟨w.heap.size, o, none⟩) (by first | omega | (simp; done) | (simp; omega))).trans (f0 o)
    have hz2 : w.heap.size < w2.heap.size := by have := hb.size; omega
    clear hb
    go_wp2_with fail
    go_ret
    exact ⟨ret_bool HV.out.symm, HB2.out⟩
  rw [g1, Bool.true_and] at hv
  rw [g1] at k1
  have K1 := Lib.hid k1
  clear k1 g1
  cases g2 : stsB x.ahead
  · rw [g2] at k2 hv
    have K2 := Lib.hid k2
    have HV := Lib.hid (hv.trans (Bool.false_and _))
    clear k2 hv g2
    go_enter Try.func16, Try.ntmps16
    go_wp2_with fail
    refine (K0.out _ (HX.out.below HB0.out)).mono ?_
    rintro e w1 ⟨rfl, hb⟩
    have HB1 := Lib.hid (front (w := w) (W0 := _) (by go_grown) (by simp <;> omega) hb)
    have c00 : w1.cell? ⟨w.heap.size, 0, none⟩ = some (.slice A0 n c0) := (hb.cell (p := ⟨w.heap.size, 0, none⟩) (by simp <;> omega)).trans (by go_simp)
    have c01 : w1.cell? ⟨w.heap.size, 1, none⟩ = some (.slice A1 m c1) := (hb.cell (p := ⟨w.heap.size, 1, none⟩) (by simp <;> omega)).trans (by go_simp)
    have c02 : w1.cell? ⟨w.heap.size, 2, none⟩ = some (.slice A2 q c2) := (hb.cell (p := ⟨w.heap.size, 2, none⟩) (by simp <;> omega)).trans (by go_simp)
    have f0 : ∀ o, w1.frozen? ⟨w.heap.size, o, none⟩ = false := fun o => (hb.frozen (p := ⟨w.heap.size, o, none⟩) (by simp <;> omega)).trans (by go_simp)
    have hz1 : w.heap.size < w1.heap.size := by have := hb.size; simp at this; omega
    clear hb
    go_wp2_with fail
    refine (K1.out _ (HY.out.below HB1.out)).mono ?_
    rintro e w2 ⟨rfl, hb⟩
    have HB2 := Lib.hid (more HB1.out (Nat.le_refl _) hb)
    replace c00 := (hb.cell (p := ⟨w.heap.size, 0, none⟩) (by first | omega | (simp; done) | (simp; omega))).trans c00
    replace c01 := (hb.cell (p := ⟨w.heap.size, 1, none⟩) (by first | omega | (simp; done) | (simp; omega))).trans c01
    replace c02 := (hb.cell (p := ⟨w.heap.size, 2, none⟩) (by first | omega | (simp; done) | (simp; omega))).trans c02
    replace f0 : ∀ o, w2.frozen? ⟨w.heap.size, o, none⟩ = false := fun o => (hb.frozen (p := ⟨w.heap.size, o, none⟩) (by first | omega | (simp; done) | (simp; omega))).trans (f0 o)
    have hz2 : w.heap.size < w2.heap.size := by have := hb.size; omega
    clear hb
    go_wp2_with fail
    refine (K2.out _ (HZ.out.below HB2.out)).mono ?_
    rintro e w3 ⟨rfl, hb⟩
    have HB3 := Lib.hid (more HB2.out (Nat.le_refl _) hb)
    replace c00 := (hb.cell (p := ⟨w.heap.size, 0, none⟩) (by first | omega | (simp; done) | (simp; omega))).trans c00
    replace c01 := (hb.cell (p := ⟨w.heap.size, 1, none⟩) (by first | omega | (simp; done) | (simp; omega))).trans c01
    replace c02 := (hb.cell (p := ⟨w.heap.size, 2, none⟩) (by first | omega | (simp; done) | (simp; omega))).trans c02
    replace f0 : ∀ o, w3.frozen? ⟨w.heap.size, o, none⟩ = false := fun o => (hb.frozen (p := ⟨w.heap.size, o, none⟩) (by first | omega | (simp; done) | (simp; omega))).trans (f0 o)
    have hz3 : w.heap.size < w3.heap.size := by have := hb.size; omega
    clear hb
    go_wp2_with fail
    go_ret
    exact ⟨ret_bool HV.out.symm, HB3.out⟩
  rw [g2, Bool.true_and] at hv
  rw [g2] at k2
  have K2 := Lib.hid k2
  have HV := Lib.hid hv
  clear k2 g2 hv
  go_enter Try.func16, Try.ntmps16
  go_wp2_with fail
  refine (K0.out _ (HX.out.below HB0.out)).mono ?_
  rintro e w1 ⟨rfl, hb⟩
  have HB1 := Lib.hid (front (w := w) (W0 := _) (by go_grown) (by simp <;> omega) hb)
  have c00 : w1.cell? ⟨w.heap.size, 0, none⟩ = some (.slice A0 n c0) := (hb.cell (p := ⟨w.heap.size, 0, none⟩) (by simp <;> omega)).trans (by go_simp)
  have c01 : w1.cell? ⟨w.heap.size, 1, none⟩ = some (.slice A1 m c1) := (hb.cell (p := ⟨w.heap.size, 1, none⟩) (by simp <;> omega)).trans (by go_simp)
  have c02 : w1.cell? ⟨w.heap.size, 2, none⟩ = some (.slice A2 q c2) := (hb.cell (p := ⟨w.heap.size, 2, none⟩) (by simp <;> omega)).trans (by go_simp)
  have f0 : ∀ o, w1.frozen? ⟨w.heap.size, o, none⟩ = false := fun o => (hb.frozen (p := ⟨w.heap.size, o, none⟩) (by simp <;> omega)).trans (by go_simp)
  have hz1 : w.heap.size < w1.heap.size := by have := hb.size; simp at this; omega
  clear hb
  go_wp2_with fail
  refine (K1.out _ (HY.out.below HB1.out)).mono ?_
  rintro e w2 ⟨rfl, hb⟩
  have HB2 := Lib.hid (more HB1.out (Nat.le_refl _) hb)
  replace c00 := (hb.cell (p := ⟨w.heap.size, 0, none⟩) (by first | omega | (simp; done) | (simp; omega))).trans c00
  replace c01 := (hb.cell (p := ⟨w.heap.size, 1, none⟩) (by first | omega | (simp; done) | (simp; omega))).trans c01
  replace c02 := (hb.cell (p := ⟨w.heap.size, 2, none⟩) (by first | omega | (simp; done) | (simp; omega))).trans c02
  replace f0 : ∀ o, w2.frozen? ⟨w.heap.size, o, none⟩ = false := fun o => (hb.frozen (p := ⟨w.heap.size, o, none⟩) (by first | omega | (simp; done) | (simp; omega))).trans (f0 o)
  have hz2 : w.heap.size < w2.heap.size := by have := hb.size; omega
  clear hb
  go_wp2_with fail
  refine (K2.out _ (HZ.out.below HB2.out)).mono ?_
  rintro e w3 ⟨rfl, hb⟩
  have HB3 := Lib.hid (more HB2.out (Nat.le_refl _) hb)
  replace c00 := (hb.cell (p := ⟨w.heap.size, 0, none⟩) (by first | omega | (simp; done) | (simp; omega))).trans c00
  replace c01 := (hb.cell (p := ⟨w.heap.size, 1, none⟩) (by first | omega | (simp; done) | (simp; omega))).trans c01
  replace c02 := (hb.cell (p := ⟨w.heap.size, 2, none⟩) (by first | omega | (simp; done) | (simp; omega))).trans c02
  replace f0 : ∀ o, w3.frozen? ⟨w.heap.size, o, none⟩ = false := fun o => (hb.frozen (p := ⟨w.heap.size, o, none⟩) (by first | omega | (simp; done) | (simp; omega))).trans (f0 o)
  have hz3 : w.heap.size < w3.heap.size := by have := hb.size; omega
  clear hb
  go_wp2_with fail
  go_ret
  exact ⟨ret_bool HV.out.symm, HB3.out⟩
set_option maxHeartbeats 2000000 in
theorem ihist_any (A0 A1 A2 : Option Addr) (n m q c0 c1 c2 : Nat) (x : Hi) (w : World) (hx : CeL w A0 x.now) (hy : StL w A1 x.back) (hz : StL w A2 x.ahead) (hn : x.now.length = n) (hm : x.back.length = m) (hq : x.ahead.length = q) (l0 : n ≤ maxLen) (l1 : m ≤ 1048576) (l2 : q ≤ 1048576) :
    Calls Try.prog 21 #[.agg #[.slice A0 n c0, .slice A1 m c1, .slice A2 q c2]] w fun e w' => e = .returned (.bool (histB x)) ∧ Below w.heap.size w w' := by
  have HB0 := Lib.hid (show Below w.heap.size w (w.alloc (.cells #[.slice A0 n c0, .slice A1 m c1, .slice A2 q c2] 30)) by go_grown)
  have HX := Lib.hid hx
  have HY := Lib.hid hy
  have HZ := Lib.hid hz
  have k0 := fun w h => istore_any A0 c0 n x.now w h hn l0
  have k1 := fun w h => allStores_any A1 c1 m x.back w h hm (by unfold maxLen; omega)
  have k2 := fun w h => allStores_any A2 c2 q x.ahead w h hq (by unfold maxLen; omega)
  have hv : histB x = (storeB x.now && (decide ((m : Int) + q ≤ 6) && (x.back.all storeB && x.ahead.all storeB))) := by unfold histB; rw [hm, hq]
  have e1 := IntWalk.i64_in ((m : Int) + q) (by omega)
  clear hx hy hz hn hm hq
  cases g0 : storeB x.now
  · rw [g0] at k0 hv
    have K0 := Lib.hid k0
    have HV := Lib.hid (hv.trans (Bool.false_and _))
    clear k0 k1 k2 hv g0
    go_enter Try.func21, Try.ntmps21
    go_wp2_with fail
    refine (K0.out _ (HX.out.below HB0.out)).mono ?_
    rintro e w1 ⟨rfl, hb⟩
    have HB1 := Lib.hid (front (w := w) (W0 := _) (by go_grown) (by simp <;> omega) hb)
    have c00 : w1.cell? ⟨w.heap.size, 0, none⟩ = some (.slice A0 n c0) := (hb.cell (p := ⟨w.heap.size, 0, none⟩) (by simp <;> omega)).trans (by go_simp)
    have c01 : w1.cell? ⟨w.heap.size, 1, none⟩ = some (.slice A1 m c1) := (hb.cell (p := ⟨w.heap.size, 1, none⟩) (by simp <;> omega)).trans (by go_simp)
    have c02 : w1.cell? ⟨w.heap.size, 2, none⟩ = some (.slice A2 q c2) := (hb.cell (p := ⟨w.heap.size, 2, none⟩) (by simp <;> omega)).trans (by go_simp)
    have f0 : ∀ o, w1.frozen? ⟨w.heap.size, o, none⟩ = false := fun o => (hb.frozen (p := ⟨w.heap.size, o, none⟩) (by simp <;> omega)).trans (by go_simp)
    have hz1 : w.heap.size < w1.heap.size := by have := hb.size; simp at this; omega
    clear hb
    go_wp2_with fail
    go_ret
    exact ⟨ret_bool HV.out.symm, HB1.out⟩
  rw [g0, Bool.true_and] at hv
  rw [g0] at k0
  have K0 := Lib.hid k0
  clear k0 g0
  by_cases h6 : (m : Int) + q ≤ 6
  case neg =>
    have hd := decide_eq_false h6
    rw [hd] at hv
    have HV := Lib.hid (hv.trans (Bool.false_and _))
    clear k1 k2 hv
    go_enter Try.func21, Try.ntmps21
    go_wp2_with fail
    refine (K0.out _ (HX.out.below HB0.out)).mono ?_
    rintro e w1 ⟨rfl, hb⟩
    have HB1 := Lib.hid (front (w := w) (W0 := _) (by go_grown) (by simp <;> omega) hb)
    have c00 : w1.cell? ⟨w.heap.size, 0, none⟩ = some (.slice A0 n c0) := (hb.cell (p := ⟨w.heap.size, 0, none⟩) (by simp <;> omega)).trans (by go_simp)
    have c01 : w1.cell? ⟨w.heap.size, 1, none⟩ = some (.slice A1 m c1) := (hb.cell (p := ⟨w.heap.size, 1, none⟩) (by simp <;> omega)).trans (by go_simp)
    have c02 : w1.cell? ⟨w.heap.size, 2, none⟩ = some (.slice A2 q c2) := (hb.cell (p := ⟨w.heap.size, 2, none⟩) (by simp <;> omega)).trans (by go_simp)
    have f0 : ∀ o, w1.frozen? ⟨w.heap.size, o, none⟩ = false := fun o => (hb.frozen (p := ⟨w.heap.size, o, none⟩) (by simp <;> omega)).trans (by go_simp)
    have hz1 : w.heap.size < w1.heap.size := by have := hb.size; simp at this; omega
    clear hb
    go_wp2_with fail
    go_ret
    exact ⟨ret_bool HV.out.symm, HB1.out⟩
  have hd := decide_eq_true h6
  rw [hd, Bool.true_and] at hv
  cases g1 : x.back.all storeB
  · rw [g1] at k1 hv
    have K1 := Lib.hid k1
    have HV := Lib.hid (hv.trans (Bool.false_and _))
    clear k1 k2 hv g1
    go_enter Try.func21, Try.ntmps21
    go_wp2_with fail
    refine (K0.out _ (HX.out.below HB0.out)).mono ?_
    rintro e w1 ⟨rfl, hb⟩
    have HB1 := Lib.hid (front (w := w) (W0 := _) (by go_grown) (by simp <;> omega) hb)
    have c00 : w1.cell? ⟨w.heap.size, 0, none⟩ = some (.slice A0 n c0) := (hb.cell (p := ⟨w.heap.size, 0, none⟩) (by simp <;> omega)).trans (by go_simp)
    have c01 : w1.cell? ⟨w.heap.size, 1, none⟩ = some (.slice A1 m c1) := (hb.cell (p := ⟨w.heap.size, 1, none⟩) (by simp <;> omega)).trans (by go_simp)
    have c02 : w1.cell? ⟨w.heap.size, 2, none⟩ = some (.slice A2 q c2) := (hb.cell (p := ⟨w.heap.size, 2, none⟩) (by simp <;> omega)).trans (by go_simp)
    have f0 : ∀ o, w1.frozen? ⟨w.heap.size, o, none⟩ = false := fun o => (hb.frozen (p := ⟨w.heap.size, o, none⟩) (by simp <;> omega)).trans (by go_simp)
    have hz1 : w.heap.size < w1.heap.size := by have := hb.size; simp at this; omega
    clear hb
    go_wp2_with fail
    refine (K1.out _ (HY.out.below HB1.out)).mono ?_
    rintro e w2 ⟨rfl, hb⟩
    have HB2 := Lib.hid (more HB1.out (Nat.le_refl _) hb)
    replace c00 := (hb.cell (p := ⟨w.heap.size, 0, none⟩) (by first | omega | (simp; done) | (simp; omega))).trans c00
    replace c01 := (hb.cell (p := ⟨w.heap.size, 1, none⟩) (by first | omega | (simp; done) | (simp; omega))).trans c01
    replace c02 := (hb.cell (p := ⟨w.heap.size, 2, none⟩) (by first | omega | (simp; done) | (simp; omega))).trans c02
    replace f0 : ∀ o, w2.frozen? ⟨w.heap.size, o, none⟩ = false := fun o => (hb.frozen (p := ⟨w.heap.size, o, none⟩) (by first | omega | (simp; done) | (simp; omega))).trans (f0 o)
    have hz2 : w.heap.size < w2.heap.size := by have := hb.size; omega
    clear hb
    go_wp2_with fail
    go_ret
    exact ⟨ret_bool HV.out.symm, HB2.out⟩
  rw [g1, Bool.true_and] at hv
  rw [g1] at k1
  have K1 := Lib.hid k1
  clear k1 g1
  cases g2 : x.ahead.all storeB
  all_goals
    rw [g2] at k2 hv
    have K2 := Lib.hid k2
    have HV := Lib.hid hv
    clear k2 hv g2
    go_enter Try.func21, Try.ntmps21
    go_wp2_with fail
    refine (K0.out _ (HX.out.below HB0.out)).mono ?_
    rintro e w1 ⟨rfl, hb⟩
    have HB1 := Lib.hid (front (w := w) (W0 := _) (by go_grown) (by simp <;> omega) hb)
    have c00 : w1.cell? ⟨w.heap.size, 0, none⟩ = some (.slice A0 n c0) := (hb.cell (p := ⟨w.heap.size, 0, none⟩) (by simp <;> omega)).trans (by go_simp)
    have c01 : w1.cell? ⟨w.heap.size, 1, none⟩ = some (.slice A1 m c1) := (hb.cell (p := ⟨w.heap.size, 1, none⟩) (by simp <;> omega)).trans (by go_simp)
    have c02 : w1.cell? ⟨w.heap.size, 2, none⟩ = some (.slice A2 q c2) := (hb.cell (p := ⟨w.heap.size, 2, none⟩) (by simp <;> omega)).trans (by go_simp)
    have f0 : ∀ o, w1.frozen? ⟨w.heap.size, o, none⟩ = false := fun o => (hb.frozen (p := ⟨w.heap.size, o, none⟩) (by simp <;> omega)).trans (by go_simp)
    have hz1 : w.heap.size < w1.heap.size := by have := hb.size; simp at this; omega
    clear hb
    go_wp2_with fail
    refine (K1.out _ (HY.out.below HB1.out)).mono ?_
    rintro e w2 ⟨rfl, hb⟩
    have HB2 := Lib.hid (more HB1.out (Nat.le_refl _) hb)
    replace c00 := (hb.cell (p := ⟨w.heap.size, 0, none⟩) (by first | omega | (simp; done) | (simp; omega))).trans c00
    replace c01 := (hb.cell (p := ⟨w.heap.size, 1, none⟩) (by first | omega | (simp; done) | (simp; omega))).trans c01
    replace c02 := (hb.cell (p := ⟨w.heap.size, 2, none⟩) (by first | omega | (simp; done) | (simp; omega))).trans c02
    replace f0 : ∀ o, w2.frozen? ⟨w.heap.size, o, none⟩ = false := fun o => (hb.frozen (p := ⟨w.heap.size, o, none⟩) (by first | omega | (simp; done) | (simp; omega))).trans (f0 o)
    have hz2 : w.heap.size < w2.heap.size := by have := hb.size; omega
    clear hb
    go_wp2_with fail
    refine (K2.out _ (HZ.out.below HB2.out)).mono ?_
    rintro e w3 ⟨rfl, hb⟩
    have HB3 := Lib.hid (more HB2.out (Nat.le_refl _) hb)
    replace c00 := (hb.cell (p := ⟨w.heap.size, 0, none⟩) (by first | omega | (simp; done) | (simp; omega))).trans c00
    replace c01 := (hb.cell (p := ⟨w.heap.size, 1, none⟩) (by first | omega | (simp; done) | (simp; omega))).trans c01
    replace c02 := (hb.cell (p := ⟨w.heap.size, 2, none⟩) (by first | omega | (simp; done) | (simp; omega))).trans c02
    replace f0 : ∀ o, w3.frozen? ⟨w.heap.size, o, none⟩ = false := fun o => (hb.frozen (p := ⟨w.heap.size, o, none⟩) (by first | omega | (simp; done) | (simp; omega))).trans (f0 o)
    have hz3 : w.heap.size < w3.heap.size := by have := hb.size; omega
    clear hb
    go_wp2_with fail
    go_ret
    exact ⟨ret_bool HV.out.symm, HB3.out⟩
end Go.Proofs.Ytkofajjlkhamkaa
