/- Stores: lists of values in memory: whether they are valid, and how the laws measure, copy and compare them. -/
import Derived.Test.YtkofajjlkhamkaaPlc4
namespace Go.Proofs.Ytkofajjlkhamkaa
open Go.Joins Go.ChangeShapes Go.WideShapes Go.ChangeAt Go.RowKit Go.Deep
set_option linter.unusedVariables false
set_option linter.unusedSimpArgs false

/-- A value. -/
structure Va where
  k : Int
  n : Int
  s : ByteArray
deriving DecidableEq
def Va.cells (x : Va) : List Value := [.int .i64 x.k, .int .i64 x.n, .string x.s]
def Va.ok (x : Va) : Bool := validB x.k x.n x.s
abbrev VaL := Lie Va.cells 3
theorem VaL.at_ {w : World} {A : Option Addr} {xs : List Va} (h : VaL w A xs) (h0 : 0 < xs.length) : ∃ b off, A = some ⟨b, off, none⟩ ∧ b < w.heap.size ∧ ∀ i (x : Va), xs[i]? = some x →
    w.cell? ⟨b, off + i * 3, none⟩ = some (.int .i64 x.k) ∧ w.cell? ⟨b, off + i * 3 + 1, none⟩ = some (.int .i64 x.n) ∧ w.cell? ⟨b, off + i * 3 + 2, none⟩ = some (.string x.s) := by
  obtain ⟨b, off, rfl, hlt, hc⟩ := h h0
  exact ⟨b, off, rfl, hlt, fun i x hx => ⟨hc i x hx 0 _ rfl, hc i x hx 1 _ rfl, hc i x hx 2 _ rfl⟩⟩

set_option maxHeartbeats 400000 in
theorem vvals_any (A : Option Addr) (c n : Nat) (xs : List Va) (w : World) (hx : VaL w A xs) (hn : xs.length = n) (hl : n ≤ maxLen) :
    Calls Try.prog 49 #[.slice A n c] w fun e w' => e = .returned (.bool (xs.all Va.ok)) ∧ Below w.heap.size w w' := by
  unfold maxLen at hl
  have HN := Lib.hid hn
  have HX := Lib.hid hx
  clear hx hn
  go_enter Try.func49, Try.ntmps49
  go_wp2_with fail
  go_loopw [3] (fun i w2 => ∃ k : Nat, k ≤ n ∧ i = .int .i64 k ∧ Below w.heap.size w w2 ∧ xs.all Va.ok = (xs.drop k).all Va.ok) (fun i _ => n - (intOf i).toNat)
  case atStart => exact ⟨0, by omega, rfl, by go_grown, rfl⟩
  case round =>
    obtain ⟨k, hk, rfl, hB, hrun⟩ := hrel
    have HR := Lib.hid hrun
    clear hrun
    by_cases hlt : k < n
    · obtain ⟨b, off, rfl, hblt, hcell⟩ := VaL.at_ (HX.out.below hB) (by have := HN.out; omega)
      obtain ⟨x, hx⟩ := at_some (show k < xs.length by rw [HN.out]; exact hlt)
      have HR2 := Lib.hid (HR.out.trans (by rw [drop_cons hx]; rfl : (xs.drop k).all Va.ok = (Va.ok x && (xs.drop (k + 1)).all Va.ok)))
      obtain ⟨c0, c1, c2⟩ := hcell k x hx
      clear hcell hx
      have hs := valid_spec x.k x.n x.s
      have hs2 : validB x.k x.n x.s = Va.ok x := rfl
      rw [hs2] at hs
      clear hs2
      cases hok : Va.ok x
      · rw [hok] at hs HR2
        have HS1 := Lib.hid hs
        have hv2 := Lib.hid (HR2.out.trans (Bool.false_and _))
        clear hs hok HR2 HR
        go_wp2_with (go_at_call 67; ((with_reducible refine (HS1.out _).mono ?_); rintro e w' ⟨rfl, hb⟩); replace hB := more hB (Nat.le_refl _) hb; clear hb)
        go_ret
        exact ⟨ret_bool hv2.out.symm, hB⟩
      · rw [hok] at hs HR2
        have HS1 := Lib.hid hs
        clear hs hok HR
        go_wp2_with (go_at_call 67; ((with_reducible refine (HS1.out _).mono ?_); rintro e w' ⟨rfl, hb⟩); replace hB := more hB (Nat.le_refl _) hb; clear hb)
        go_roundw
        case rel => exact ⟨k + 1, by omega, by go_num, hB, HR2.out.trans (Bool.true_and _)⟩
        case measure => simp [intOf]; omega
    · have hv2 := Lib.hid (HR.out.trans (by rw [drop_none (by rw [HN.out]; omega)]; rfl : (xs.drop k).all Va.ok = true))
      go_wp2_with fail
      go_ret
      exact ⟨ret_bool hv2.out.symm, hB⟩

set_option maxHeartbeats 400000 in
theorem ivals_any (A : Option Addr) (c n : Nat) (xs : List Va) (w : World) (hx : VaL w A xs) (hn : xs.length = n) (hl : n ≤ maxLen) :
    Calls Try.prog 71 #[.slice A n c] w fun e w' => e = .returned (.bool (xs.all Va.ok)) ∧ Below w.heap.size w w' := by
  unfold maxLen at hl
  have HN := Lib.hid hn
  have HX := Lib.hid hx
  clear hx hn
  go_enter Try.func71, Try.ntmps71
  go_wp2_with fail
  go_loopw [4, 7] (fun _ i w2 => ∃ k : Nat, k ≤ n ∧ i = .int .i64 k ∧ Below w.heap.size w w2 ∧ xs.all Va.ok = (xs.drop k).all Va.ok) (fun _ i _ => n - (intOf i).toNat)
  case atStart => exact ⟨0, by omega, rfl, by go_grown, rfl⟩
  case round =>
    obtain ⟨k, hk, rfl, hB, hrun⟩ := hrel
    have HR := Lib.hid hrun
    clear hrun
    by_cases hlt : k < n
    · obtain ⟨b, off, rfl, hblt, hcell⟩ := VaL.at_ (HX.out.below hB) (by have := HN.out; omega)
      obtain ⟨x, hx⟩ := at_some (show k < xs.length by rw [HN.out]; exact hlt)
      have HR2 := Lib.hid (HR.out.trans (by rw [drop_cons hx]; rfl : (xs.drop k).all Va.ok = (Va.ok x && (xs.drop (k + 1)).all Va.ok)))
      obtain ⟨c0, c1, c2⟩ := hcell k x hx
      clear hcell hx
      have hs := valid_impl x.k x.n x.s
      have hs2 : validB x.k x.n x.s = Va.ok x := rfl
      rw [hs2] at hs
      clear hs2
      have hB1 := hB.alloc hB.size (.cells #[.int .i64 x.k, .int .i64 x.n, .string x.s] 82)
      cases hok : Va.ok x
      · rw [hok] at hs HR2
        have HS1 := Lib.hid hs
        have hv2 := Lib.hid (HR2.out.trans (Bool.false_and _))
        clear hs hok HR2 HR
        go_wp2_with (go_at_call 83; ((with_reducible refine (HS1.out _).mono ?_); rintro e w' ⟨rfl, hb⟩); have hB2 := hB1.trans (hb.mono hB1.size); clear hb)
        go_ret
        exact ⟨ret_bool hv2.out.symm, hB2⟩
      · rw [hok] at hs HR2
        have HS1 := Lib.hid hs
        clear hs hok HR
        go_wp2_with (go_at_call 83; ((with_reducible refine (HS1.out _).mono ?_); rintro e w' ⟨rfl, hb⟩); have hB2 := hB1.trans (hb.mono hB1.size); clear hb)
        go_roundw
        case rel => exact ⟨k + 1, by omega, by go_num, hB2, HR2.out.trans (Bool.true_and _)⟩
        case measure => simp [intOf]; omega
    · have hv2 := Lib.hid (HR.out.trans (by rw [drop_none (by rw [HN.out]; omega)]; rfl : (xs.drop k).all Va.ok = true))
      go_wp2_with fail
      go_ret
      exact ⟨ret_bool hv2.out.symm, hB⟩

def statesB (xs : List Va) : Bool := decide (xs.length ≤ 3) && xs.all Va.ok
set_option maxHeartbeats 400000 in
theorem istates_any (A : Option Addr) (c n : Nat) (xs : List Va) (w : World) (hx : VaL w A xs) (hn : xs.length = n) (hl : n ≤ maxLen) :
    Calls Try.prog 54 #[.slice A n c] w fun e w' => e = .returned (.bool (statesB xs)) ∧ Below w.heap.size w w' := by
  have HV := Lib.hid (ivals_any A c n xs w hx hn hl)
  have hv : statesB xs = (decide (n ≤ 3) && xs.all Va.ok) := by unfold statesB; rw [hn]
  unfold maxLen at hl
  by_cases h3 : n ≤ 3
  · have hd : decide ((n : Int) ≤ 3) = true := by simp; omega
    rw [decide_eq_true h3, Bool.true_and] at hv
    rw [hv]
    have h3' : (n : Int) ≤ 3 := by omega
    clear hx hn hv h3
    go_enter Try.func54, Try.ntmps54
    go_wp2_with (go_at_call 71; ((with_reducible refine HV.out.mono ?_); rintro e w' ⟨rfl, hb⟩))
    go_ret
    exact ⟨rfl, hb⟩
  · have hd : decide ((n : Int) ≤ 3) = false := by simp; omega
    rw [decide_eq_false h3, Bool.false_and] at hv
    rw [hv]
    clear hx hn hv
    go_enter Try.func54, Try.ntmps54
    go_wp2_with fail
    go_ret
    exact ⟨rfl, by go_grown⟩

def szVs : List Va → Int
  | [] => 0
  | x :: xs => x.s.size + szVs xs
theorem szVs_pos : ∀ xs : List Va, 0 ≤ szVs xs
  | [] => by decide
  | x :: xs => by have := szVs_pos xs; simp only [szVs]; omega
/-- What is left of a measure. -/
def leftV (left n : Int) : Int := if left < n then -1 else left - n
theorem leftV_neg {left n : Int} (h : left < n) : leftV left n = -1 := if_pos h
theorem leftV_pos {left n : Int} (h : n ≤ left) : leftV left n = left - n := if_neg (by omega)

set_option maxHeartbeats 400000 in
theorem szVals_any (A : Option Addr) (c n : Nat) (xs : List Va) (left : Int) (w : World) (hx : VaL w A xs) (hn : xs.length = n) (hl : n ≤ maxLen) (hs : ∀ x ∈ xs, x.s.size ≤ maxLen) (h : left ≤ 1048576) (h0 : 0 ≤ left) :
    Calls Try.prog 47 #[.slice A n c, .int .i64 left] w fun e w' => e = .returned (.int .i64 (leftV left (n + szVs xs))) ∧ Below w.heap.size w w' := by
  unfold maxLen at hl
  have HN := Lib.hid hn
  have HX := Lib.hid hx
  have HS := Lib.hid hs
  have hpos := szVs_pos xs
  clear hx hs
  by_cases hlt0 : left < n
  · have HV := Lib.hid (leftV_neg (show left < n + szVs xs by omega))
    clear hn hpos
    go_enter Try.func47, Try.ntmps47
    go_wp2_with fail
    go_ret
    exact ⟨ret_int HV.out.symm, by go_grown⟩
  clear hn hpos
  go_enter Try.func47, Try.ntmps47
  go_wp2_with fail
  go_loopw [1, 5] (fun l i w2 => ∃ (k : Nat) (z : Int), k ≤ n ∧ i = .int .i64 k ∧ l = .int .i64 z ∧ 0 ≤ z ∧ z ≤ 1048576 ∧ Below w.heap.size w w2 ∧ leftV left (n + szVs xs) = leftV z (szVs (xs.drop k))) (fun _ i _ => n - (intOf i).toNat)
  case atStart => exact ⟨0, left - n, by omega, rfl, rfl, by omega, by omega, by go_grown, by show leftV left (n + szVs xs) = leftV (left - n) (szVs xs); unfold leftV; split <;> split <;> omega⟩
  case round =>
    obtain ⟨k, z, hk, rfl, rfl, hz0, hz1, hB, hrun⟩ := hrel
    have HR := Lib.hid hrun
    clear hrun
    by_cases hlt : k < n
    · obtain ⟨b, off, rfl, hblt, hcell⟩ := VaL.at_ (HX.out.below hB) (by have := HN.out; omega)
      obtain ⟨x, hx⟩ := at_some (show k < xs.length by rw [HN.out]; exact hlt)
      have HR2 := Lib.hid (HR.out.trans (by rw [drop_cons hx]; rfl : leftV z (szVs (xs.drop k)) = leftV z (x.s.size + szVs (xs.drop (k + 1)))))
      obtain ⟨c0, c1, c2⟩ := hcell k x hx
      have hsz := HS.out x (List.mem_of_getElem? hx)
      have hp := szVs_pos (xs.drop (k + 1))
      have hs := szValue_any x.k x.n z x.s
      clear hcell hx
      by_cases hle : z < x.s.size
      · have HV := Lib.hid (HR2.out.trans (leftV_neg (by omega)))
        simp only [if_pos hle] at hs
        have HS1 := Lib.hid hs
        have HSZ := Lib.hid hsz
        clear hs HR2 HR hsz hp hle
        go_wp2_with (go_at_call 65; refine (HS1.out _ hz1 hz0 HSZ.out).mono ?_; rintro e w' ⟨rfl, hb⟩; replace hB := more hB (Nat.le_refl _) hb; clear hb)
        go_ret
        exact ⟨ret_int HV.out.symm, hB⟩
      · have HV := Lib.hid (HR2.out.trans (by unfold leftV; split <;> split <;> omega : leftV z (x.s.size + szVs (xs.drop (k + 1))) = leftV (z - x.s.size) (szVs (xs.drop (k + 1)))))
        simp only [if_neg hle] at hs
        have HS1 := Lib.hid hs
        have HSZ := Lib.hid hsz
        have hq : 0 ≤ z - (x.s.size : Int) := by omega
        have hq2 : z - (x.s.size : Int) ≤ 1048576 := by omega
        have HQ := Lib.hid hq
        clear hs HR2 HR hsz hp
        go_wp2_with (go_at_call 65; refine (HS1.out _ hz1 hz0 HSZ.out).mono ?_; rintro e w' ⟨rfl, hb⟩; replace hB := more hB (Nat.le_refl _) hb; clear hb)
        go_roundw
        case rel => exact ⟨k + 1, z - x.s.size, by omega, by go_num, rfl, HQ.out, by omega, hB, HV.out⟩
        case measure => simp [intOf]; omega
    · have HV := Lib.hid (HR.out.trans (by rw [drop_none (by rw [HN.out]; omega)]; show leftV z 0 = z; unfold leftV; split <;> omega : leftV z (szVs (xs.drop k)) = z))
      go_wp2_with fail
      go_ret
      exact ⟨ret_int HV.out.symm, hB⟩
end Go.Proofs.Ytkofajjlkhamkaa
