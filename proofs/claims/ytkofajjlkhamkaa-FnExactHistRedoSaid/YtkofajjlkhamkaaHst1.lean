/- Histories: stores in a row, and how the laws measure them. -/
import Derived.Test.YtkofajjlkhamkaaSto7N
namespace Go.Proofs.Ytkofajjlkhamkaa
open Go.Joins Go.ChangeShapes Go.WideShapes Go.ChangeAt Go.RowKit Go.Deep
set_option linter.unusedVariables false
set_option linter.unusedSimpArgs false

/-- Stores lie in memory: a row of slices. -/
def StL (w : World) (A : Option Addr) (xss : List (List Ce)) : Prop :=
  0 < xss.length → ∃ b off, A = some ⟨b, off, none⟩ ∧ b < w.heap.size ∧ ∀ i (xs : List Ce), xss[i]? = some xs → ∃ A0 c0, w.cell? ⟨b, off + i, none⟩ = some (.slice A0 xs.length c0) ∧ CeL w A0 xs ∧ xs.length ≤ maxLen ∧ xs.length ≤ c0
theorem StL.below {w w' : World} {A : Option Addr} {xss : List (List Ce)} (h : StL w A xss) (hb : Below w.heap.size w w') : StL w' A xss := fun h0 => by
  obtain ⟨b, off, rfl, hlt, hc⟩ := h h0
  refine ⟨b, off, rfl, Nat.lt_of_lt_of_le hlt hb.size, fun i xs hx => ?_⟩
  obtain ⟨A0, c0, h1, h2, h3, h4⟩ := hc i xs hx
  exact ⟨A0, c0, (hb.cell (p := ⟨b, _, none⟩) hlt).trans h1, h2.below hb, h3, h4⟩
theorem StL.nil {w : World} {A : Option Addr} : StL w A [] := fun h => absurd h (by simp)
def SmS (xs : List Ce) : Prop := ∀ x ∈ xs, ∀ v ∈ x.st, v.s.size ≤ maxLen
def szSt (xs : List Ce) : Int := xs.length + szCs xs
theorem szSt_pos (xs : List Ce) : 0 ≤ szSt xs := by have := szCs_pos xs; unfold szSt; omega
def szSts : List (List Ce) → Int
  | [] => 0
  | x :: xs => szSt x + szSts xs
theorem szSts_pos : ∀ xs : List (List Ce), 0 ≤ szSts xs
  | [] => by decide
  | x :: xs => by have := szSts_pos xs; have := szSt_pos x; simp only [szSts]; omega
theorem szSts_mem {xss : List (List Ce)} {xs : List Ce} (h : xs ∈ xss) : szSt xs ≤ szSts xss := by
  induction xss with
  | nil => cases h
  | cons y ys ih =>
    have := szSts_pos ys
    have := szSt_pos y
    rcases List.mem_cons.1 h with rfl | h
    · simp only [szSts]; omega
    · have := ih h; simp only [szSts]; omega
set_option maxHeartbeats 1000000 in
theorem szStores_any (A : Option Addr) (c n : Nat) (xs : List (List Ce)) (left : Int) (w : World) (hx : StL w A xs) (hn : xs.length = n) (hl : n ≤ maxLen) (hs : ∀ x ∈ xs, SmS x) (h : left ≤ 1048576) (h0 : 0 ≤ left) :
    Calls Try.prog 15 #[.slice A n c, .int .i64 left] w fun e w' => e = .returned (.int .i64 (leftV left (n + szSts xs))) ∧ Below w.heap.size w w' := by
  unfold maxLen at hl
  have HN := Lib.hid hn
  have HX := Lib.hid hx
  have HS := Lib.hid hs
  have hpos := szSts_pos xs
  clear hx hs
  by_cases hlt0 : left < n
  · have HV := Lib.hid (leftV_neg (show left < n + szSts xs by omega))
    clear hn hpos
    go_enter Try.func15, Try.ntmps15
    go_wp2_with fail
    go_ret
    exact ⟨ret_int HV.out.symm, by go_grown⟩
  clear hn hpos
  go_enter Try.func15, Try.ntmps15
  go_wp2_with fail
  go_loopw [1, 5] (fun l i w2 => ∃ (k : Nat) (z : Int), k ≤ n ∧ i = .int .i64 k ∧ l = .int .i64 z ∧ 0 ≤ z ∧ z ≤ 1048576 ∧ Below w.heap.size w w2 ∧ leftV left (n + szSts xs) = leftV z (szSts (xs.drop k))) (fun _ i _ => n - (intOf i).toNat)
  case atStart => exact ⟨0, left - n, by omega, rfl, rfl, by omega, by omega, by go_grown, by show leftV left (n + szSts xs) = leftV (left - n) (szSts xs); unfold leftV; split <;> split <;> omega⟩
  case round =>
    obtain ⟨k, z, hk, rfl, rfl, hz0, hz1, hB, hrun⟩ := hrel
    have HR := Lib.hid hrun
    clear hrun
    by_cases hlt : k < n
    · obtain ⟨b, off, rfl, hblt, hcell⟩ := (HX.out.below hB) (by have := HN.out; omega)
      obtain ⟨x, hx⟩ := at_some (show k < xs.length by rw [HN.out]; exact hlt)
      have HR2 := Lib.hid (HR.out.trans (by rw [drop_cons hx]; rfl : leftV z (szSts (xs.drop k)) = leftV z (szSt x + szSts (xs.drop (k + 1)))))
      obtain ⟨A0, c0, e0, hat, hm0, hc0⟩ := hcell k x hx
      have hsz := HS.out x (List.mem_of_getElem? hx)
      have hp := szSts_pos (xs.drop (k + 1))
      have hp2 := szSt_pos x
      have hs : Calls Try.prog 14 #[.slice A0 x.length c0, .int .i64 z] wr fun e w' => e = .returned (.int .i64 (leftV z (szSt x))) ∧ Below wr.heap.size wr w' := szCells_any A0 c0 x.length x z wr hat rfl hm0 hsz hz1 hz0
      clear hcell hx hat hsz
      by_cases hle : z < szSt x
      · have HV := Lib.hid (HR2.out.trans (leftV_neg (by omega)))
        rw [leftV_neg hle] at hs
        have HS1 := Lib.hid hs
        clear hs HR2 HR hp hp2 hle
        go_wp2_with (go_at_call 14; ((with_reducible refine HS1.out.mono ?_); rintro e w' ⟨rfl, hb⟩); replace hB := more hB (Nat.le_refl _) hb; clear hb)
        go_ret
        exact ⟨ret_int HV.out.symm, hB⟩
      · have HV := Lib.hid (HR2.out.trans (by unfold leftV; split <;> split <;> omega : leftV z (szSt x + szSts (xs.drop (k + 1))) = leftV (z - szSt x) (szSts (xs.drop (k + 1)))))
        rw [leftV_pos (by omega)] at hs
        have HS1 := Lib.hid hs
        have hq : 0 ≤ z - szSt x := by omega
        have hq2 : z - szSt x ≤ 1048576 := by omega
        have HQ := Lib.hid hq
        have HQ2 := Lib.hid hq2
        clear hs HR2 HR hp hle
        go_wp2_with (go_at_call 14; ((with_reducible refine HS1.out.mono ?_); rintro e w' ⟨rfl, hb⟩); replace hB := more hB (Nat.le_refl _) hb; clear hb)
        go_roundw
        case rel => exact ⟨k + 1, z - szSt x, by omega, by go_num, rfl, HQ.out, HQ2.out, hB, HV.out⟩
        case measure => simp [intOf]; omega
    · have HV := Lib.hid (HR.out.trans (by rw [drop_none (by rw [HN.out]; omega)]; show leftV z 0 = z; unfold leftV; split <;> omega : leftV z (szSts (xs.drop k)) = z))
      go_wp2_with fail
      go_ret
      exact ⟨ret_int HV.out.symm, hB⟩
end Go.Proofs.Ytkofajjlkhamkaa
