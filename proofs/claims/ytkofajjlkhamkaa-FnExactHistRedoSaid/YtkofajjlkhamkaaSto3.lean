/- Stores: cells in memory, and how the laws measure them. -/
import Derived.Test.YtkofajjlkhamkaaSto2
namespace Go.Proofs.Ytkofajjlkhamkaa
open Go.Joins Go.ChangeShapes Go.WideShapes Go.ChangeAt Go.RowKit Go.Deep
set_option linter.unusedVariables false
set_option linter.unusedSimpArgs false

/-- A cell of a store. -/
structure Ce where
  pl : List Sl
  st : List Va
/-- A cell's own two cells, and what they lead to. -/
structure CeAt (w : World) (b o : Nat) (x : Ce) (A0 : Option Addr) (c0 : Nat) (A1 : Option Addr) (c1 : Nat) : Prop where
  e0 : w.cell? ⟨b, o, none⟩ = some (.slice A0 x.pl.length c0)
  e1 : w.cell? ⟨b, o + 1, none⟩ = some (.slice A1 x.st.length c1)
  pl : SlL w A0 x.pl
  st : VaL w A1 x.st
  m0 : x.pl.length ≤ c0
  m1 : x.st.length ≤ c1
  n0 : x.pl.length ≤ maxLen
  n1 : x.st.length ≤ maxLen
def CeL (w : World) (A : Option Addr) (xs : List Ce) : Prop :=
  0 < xs.length → ∃ b off, A = some ⟨b, off, none⟩ ∧ b < w.heap.size ∧ ∀ i (x : Ce), xs[i]? = some x → ∃ A0 c0 A1 c1, CeAt w b (off + i * 2) x A0 c0 A1 c1
theorem CeAt.below {w w' : World} {b o : Nat} {x : Ce} {A0 : Option Addr} {c0 : Nat} {A1 : Option Addr} {c1 : Nat} (h : CeAt w b o x A0 c0 A1 c1) (hlt : b < w.heap.size) (hb : Below w.heap.size w w') : CeAt w' b o x A0 c0 A1 c1 :=
  ⟨(hb.cell (p := ⟨b, _, none⟩) hlt).trans h.e0, (hb.cell (p := ⟨b, _, none⟩) hlt).trans h.e1, h.pl.below hb, h.st.below hb, h.m0, h.m1, h.n0, h.n1⟩
theorem CeL.below {w w' : World} {A : Option Addr} {xs : List Ce} (h : CeL w A xs) (hb : Below w.heap.size w w') : CeL w' A xs := fun h0 => by
  obtain ⟨b, off, rfl, hlt, hc⟩ := h h0
  refine ⟨b, off, rfl, Nat.lt_of_lt_of_le hlt hb.size, fun i x hx => ?_⟩
  obtain ⟨A0, c0, A1, c1, h1⟩ := hc i x hx
  exact ⟨A0, c0, A1, c1, h1.below hlt hb⟩
theorem CeL.nil {w : World} {A : Option Addr} : CeL w A [] := fun h => absurd h (by simp)

def szCe (x : Ce) : Int := x.pl.length + (x.st.length + szVs x.st)
theorem szCe_pos (x : Ce) : 0 ≤ szCe x := by have := szVs_pos x.st; unfold szCe; omega
def szCs : List Ce → Int
  | [] => 0
  | x :: xs => szCe x + szCs xs
theorem szCs_pos : ∀ xs : List Ce, 0 ≤ szCs xs
  | [] => by decide
  | x :: xs => by have := szCs_pos xs; have := szCe_pos x; simp only [szCs]; omega

theorem szCs_mem {xs : List Ce} {x : Ce} (h : x ∈ xs) {m : Int} (hm : xs.length + szCs xs ≤ m) : (x.pl.length : Int) ≤ m ∧ (x.st.length : Int) ≤ m := by
  have h1 : szCe x ≤ szCs xs := by
    clear hm
    induction xs with
    | nil => cases h
    | cons y ys ih =>
      have := szCs_pos ys
      have := szCe_pos y
      rcases List.mem_cons.1 h with rfl | h
      · simp only [szCs]; omega
      · have := ih h; simp only [szCs]; omega
  have := szVs_pos x.st
  unfold szCe at h1
  omega
set_option maxHeartbeats 400000 in
theorem szCell_any (A0 A1 : Option Addr) (c0 c1 : Nat) (x : Ce) (left : Int) (w : World) (hx : SlL w A0 x.pl) (hy : VaL w A1 x.st) (hl0 : x.pl.length ≤ maxLen) (hl1 : x.st.length ≤ maxLen) (hs : ∀ v ∈ x.st, v.s.size ≤ maxLen) (h : left ≤ 1048576) (h0 : 0 ≤ left) :
    Calls Try.prog 31 #[.agg #[.slice A0 x.pl.length c0, .slice A1 x.st.length c1], .int .i64 left] w fun e w' => e = .returned (.int .i64 (leftV left (szCe x))) ∧ Below w.heap.size w w' := by
  have hz := fun w => szSlots_any A0 x.pl.length c0 left w h h0 hl0
  have K2 := fun left w hy h h0 => szVals_any A1 c1 x.st.length x.st left w hy rfl hl1 hs h h0
  have hpos := szVs_pos x.st
  have hB := Below.alloc (Below.refl w.heap.size w) (Nat.le_refl _) (.cells #[.slice A0 x.pl.length c0, .slice A1 x.st.length c1] 54)
  have hsz : szCe x = x.pl.length + (x.st.length + szVs x.st) := rfl
  obtain ⟨n, hn⟩ : ∃ n, x.pl.length = n := ⟨_, rfl⟩
  obtain ⟨m, hm⟩ : ∃ m, x.st.length = m := ⟨_, rfl⟩
  obtain ⟨z, hzz⟩ : ∃ z, szVs x.st = z := ⟨_, rfl⟩
  rw [hn] at hz hsz ⊢
  rw [hm] at K2 hsz ⊢
  rw [hzz] at K2 hsz hpos
  rw [hsz]
  rw [hn, hm] at hB
  have HY := Lib.hid (hy.below hB)
  clear hx hy hl0 hl1 hn hm hzz hs hsz
  by_cases hlt : left < n
  · simp only [if_pos hlt] at hz
    have HZ := Lib.hid hz
    have HV := Lib.hid (leftV_neg (show left < (n : Int) + (m + z) by omega))
    clear hz K2
    go_enter Try.func31, Try.ntmps31
    go_wp2_with (go_at_call 46; ((with_reducible refine (HZ.out _).mono ?_); rintro e w' ⟨rfl, rfl⟩))
    go_ret
    exact ⟨ret_int HV.out.symm, by go_grown⟩
  · simp only [if_neg hlt] at hz
    have HZ := Lib.hid hz
    by_cases hlt2 : left - n < m + z
    · have HV := Lib.hid (leftV_neg (show left < (n : Int) + (m + z) by omega))
      have HV2 := leftV_neg hlt2
      have k2 := fun w hy => K2 (left - n) w hy (by omega) (by omega)
      rw [HV2] at k2
      have HK2 := Lib.hid k2
      clear hz K2 k2 HV2
      go_enter Try.func31, Try.ntmps31
      go_wp2_with (first
        | (go_at_call 46; ((with_reducible refine (HZ.out _).mono ?_); rintro e w' ⟨rfl, rfl⟩))
        | (go_at_call 47; ((with_reducible refine (HK2.out _ HY.out).mono ?_); rintro e w' ⟨rfl, hb⟩); have HB2 := Lib.hid (hB.trans (hb.mono hB.size)); clear hb))
      go_ret
      exact ⟨ret_int HV.out.symm, HB2.out⟩
    · have HV := Lib.hid (leftV_pos (show (n : Int) + (m + z) ≤ left by omega))
      have HV2 := leftV_pos (show (m : Int) + z ≤ left - n by omega)
      have k2 := fun w hy => K2 (left - n) w hy (by omega) (by omega)
      rw [HV2] at k2
      have HK2 := Lib.hid k2
      have hr : 0 ≤ left - n - (m + z) := by omega
      clear hz K2 k2 HV2
      go_enter Try.func31, Try.ntmps31
      go_wp2_with (first
        | (go_at_call 46; ((with_reducible refine (HZ.out _).mono ?_); rintro e w' ⟨rfl, rfl⟩))
        | (go_at_call 47; ((with_reducible refine (HK2.out _ HY.out).mono ?_); rintro e w' ⟨rfl, hb⟩); have HB2 := Lib.hid (hB.trans (hb.mono hB.size)); clear hb))
      go_ret
      exact ⟨ret_int (by rw [HV.out]; omega), HB2.out⟩

set_option maxHeartbeats 1000000 in
theorem szCells_any (A : Option Addr) (c n : Nat) (xs : List Ce) (left : Int) (w : World) (hx : CeL w A xs) (hn : xs.length = n) (hl : n ≤ maxLen) (hs : ∀ x ∈ xs, ∀ v ∈ x.st, v.s.size ≤ maxLen) (h : left ≤ 1048576) (h0 : 0 ≤ left) :
    Calls Try.prog 14 #[.slice A n c, .int .i64 left] w fun e w' => e = .returned (.int .i64 (leftV left (n + szCs xs))) ∧ Below w.heap.size w w' := by
  unfold maxLen at hl
  have HN := Lib.hid hn
  have HX := Lib.hid hx
  have HS := Lib.hid hs
  have hpos := szCs_pos xs
  clear hx hs
  by_cases hlt0 : left < n
  · have HV := Lib.hid (leftV_neg (show left < n + szCs xs by omega))
    clear hn hpos
    go_enter Try.func14, Try.ntmps14
    go_wp2_with fail
    go_ret
    exact ⟨ret_int HV.out.symm, by go_grown⟩
  clear hn hpos
  go_enter Try.func14, Try.ntmps14
  go_wp2_with fail
  go_loopw [1, 5] (fun l i w2 => ∃ (k : Nat) (z : Int), k ≤ n ∧ i = .int .i64 k ∧ l = .int .i64 z ∧ 0 ≤ z ∧ z ≤ 1048576 ∧ Below w.heap.size w w2 ∧ leftV left (n + szCs xs) = leftV z (szCs (xs.drop k))) (fun _ i _ => n - (intOf i).toNat)
  case atStart => exact ⟨0, left - n, by omega, rfl, rfl, by omega, by omega, by go_grown, by show leftV left (n + szCs xs) = leftV (left - n) (szCs xs); unfold leftV; split <;> split <;> omega⟩
  case round =>
    obtain ⟨k, z, hk, rfl, rfl, hz0, hz1, hB, hrun⟩ := hrel
    have HR := Lib.hid hrun
    clear hrun
    by_cases hlt : k < n
    · obtain ⟨b, off, rfl, hblt, hcell⟩ := (HX.out.below hB) (by have := HN.out; omega)
      obtain ⟨x, hx⟩ := at_some (show k < xs.length by rw [HN.out]; exact hlt)
      have HR2 := Lib.hid (HR.out.trans (by rw [drop_cons hx]; rfl : leftV z (szCs (xs.drop k)) = leftV z (szCe x + szCs (xs.drop (k + 1)))))
      obtain ⟨A0, c0, A1, c1, hat⟩ := hcell k x hx
      have e0 := hat.e0
      have e1 := hat.e1
      have hsz := HS.out x (List.mem_of_getElem? hx)
      have hp := szCs_pos (xs.drop (k + 1))
      have hp2 := szCe_pos x
      have hs := szCell_any A0 A1 c0 c1 x z wr hat.pl hat.st hat.n0 hat.n1 hsz hz1 hz0
      clear hcell hx hat hsz
      by_cases hle : z < szCe x
      · have HV := Lib.hid (HR2.out.trans (leftV_neg (by omega)))
        rw [leftV_neg hle] at hs
        have HS1 := Lib.hid hs
        clear hs HR2 HR hp hp2 hle
        go_wp2_with (go_at_call 31; ((with_reducible refine HS1.out.mono ?_); rintro e w' ⟨rfl, hb⟩); replace hB := more hB (Nat.le_refl _) hb; clear hb)
        go_ret
        exact ⟨ret_int HV.out.symm, hB⟩
      · have HV := Lib.hid (HR2.out.trans (by unfold leftV; split <;> split <;> omega : leftV z (szCe x + szCs (xs.drop (k + 1))) = leftV (z - szCe x) (szCs (xs.drop (k + 1)))))
        rw [leftV_pos (by omega)] at hs
        have HS1 := Lib.hid hs
        have hq : 0 ≤ z - szCe x := by omega
        have hq2 : z - szCe x ≤ 1048576 := by omega
        have HQ := Lib.hid hq
        have HQ2 := Lib.hid hq2
        clear hs HR2 HR hp hle
        go_wp2_with (go_at_call 31; ((with_reducible refine HS1.out.mono ?_); rintro e w' ⟨rfl, hb⟩); replace hB := more hB (Nat.le_refl _) hb; clear hb)
        go_roundw
        case rel => exact ⟨k + 1, z - szCe x, by omega, by go_num, rfl, HQ.out, HQ2.out, hB, HV.out⟩
        case measure => simp [intOf]; omega
    · have HV := Lib.hid (HR.out.trans (by rw [drop_none (by rw [HN.out]; omega)]; show leftV z 0 = z; unfold leftV; split <;> omega : leftV z (szCs (xs.drop k)) = z))
      go_wp2_with fail
      go_ret
      exact ⟨ret_int HV.out.symm, hB⟩
end Go.Proofs.Ytkofajjlkhamkaa
