/- Effects: measured, copied and compared by the laws. -/
import Derived.Test.YtegdpdafaimmoaaEff1
import Derived.Deep.Onto
namespace Go.Proofs.Ytegdpdafaimmoaa
open Go.Joins Go.ChangeShapes Go.WideShapes Go.ChangeAt Go.RowKit Go.Deep
set_option linter.unusedVariables false
set_option linter.unusedSimpArgs false

/-- What is left of a measure. -/
def leftV (left n : Int) : Int := if left < n then -1 else left - n
theorem leftV_neg {left n : Int} (h : left < n) : leftV left n = -1 := if_pos h
theorem leftV_pos {left n : Int} (h : n ≤ left) : leftV left n = left - n := if_neg (by omega)

def szE (x : Ef) : Int := x.pl.length
theorem szE_pos (x : Ef) : 0 ≤ szE x := by unfold szE; omega
def szEfs : List Ef → Int
  | [] => 0
  | x :: xs => szE x + szEfs xs
theorem szEfs_pos : ∀ xs : List Ef, 0 ≤ szEfs xs
  | [] => by simp [szEfs]
  | x :: xs => by have := szEfs_pos xs; have := szE_pos x; simp only [szEfs]; omega
theorem szEfs_mem {xs : List Ef} {x : Ef} (h : x ∈ xs) : szE x ≤ szEfs xs := by
  induction xs with
  | nil => cases h
  | cons y ys ih =>
    have h1 := szEfs_pos ys
    have h2 := szE_pos y
    simp only [szEfs]
    rcases List.mem_cons.1 h with rfl | h
    · omega
    · have := ih h; omega
set_option maxHeartbeats 1000000 in
theorem szEffect_any (k : Int) (A : Option Addr) (n c : Nat) (left : Int) (w : World) (h : left ≤ 1048576) (h0 : 0 ≤ left) (hn : n ≤ maxLen) :
    Calls Try.prog 31 #[.agg #[.int .i64 k, .slice A n c], .int .i64 left] w fun e w' => e = .returned (.int .i64 (leftV left n)) ∧ Below w.heap.size w w' := by
  have k1 := fun w => szSlots_any A n c left w h h0 hn
  have hb0 : Below w.heap.size w (w.alloc (.cells #[.int .i64 k, .slice A n c] 52)) := by go_grown
  by_cases hlt : left < n
  · rw [if_pos hlt] at k1
    rw [leftV_neg hlt]
    have K := Lib.hid k1
    have HB := Lib.hid hb0
    clear k1 hb0 hlt
    go_enter Try.func31, Try.ntmps31
    go_wp2_with fail
    refine (K.out _).mono ?_
    rintro e w1 ⟨rfl, rfl⟩
    go_wp2_with fail
    go_ret
    exact ⟨rfl, HB.out⟩
  · rw [if_neg hlt] at k1
    rw [leftV_pos (by omega)]
    have hd : decide (left - (n : Int) < 0) = false := by simp; omega
    have K := Lib.hid k1
    have HB := Lib.hid hb0
    clear k1 hb0 hlt
    go_enter Try.func31, Try.ntmps31
    go_wp2_with fail
    refine (K.out _).mono ?_
    rintro e w1 ⟨rfl, rfl⟩
    go_wp2_with fail
    go_ret
    exact ⟨rfl, HB.out⟩
set_option maxHeartbeats 1000000 in
theorem szEffects_any (A : Option Addr) (c n : Nat) (xs : List Ef) (left : Int) (w : World) (hx : EfL w A xs) (hn : xs.length = n) (hl : n ≤ maxLen) (h : left ≤ 1048576) (h0 : 0 ≤ left) :
    Calls Try.prog 8 #[.slice A n c, .int .i64 left] w fun e w' => e = .returned (.int .i64 (leftV left (n + szEfs xs))) ∧ Below w.heap.size w w' := by
  unfold maxLen at hl
  have HN := Lib.hid hn
  have HX := Lib.hid hx
  have hpos := szEfs_pos xs
  clear hx
  by_cases hlt0 : left < n
  · have HV := Lib.hid (leftV_neg (show left < n + szEfs xs by omega))
    clear hn hpos
    go_enter Try.func8, Try.ntmps8
    go_wp2_with fail
    go_ret
    exact ⟨ret_int HV.out.symm, by go_grown⟩
  clear hn hpos
  go_enter Try.func8, Try.ntmps8
  go_wp2_with fail
  go_loopw [1, 5] (fun l i w2 => ∃ (k : Nat) (z : Int), k ≤ n ∧ i = .int .i64 k ∧ l = .int .i64 z ∧ 0 ≤ z ∧ z ≤ 1048576 ∧ Below w.heap.size w w2 ∧ leftV left (n + szEfs xs) = leftV z (szEfs (xs.drop k))) (fun _ i _ => n - (intOf i).toNat)
  case atStart => exact ⟨0, left - n, by omega, rfl, rfl, by omega, by omega, by go_grown, by show leftV left (n + szEfs xs) = leftV (left - n) (szEfs xs); unfold leftV; split <;> split <;> omega⟩
  case round =>
    obtain ⟨k, z, hk, rfl, rfl, hz0, hz1, hB, hrun⟩ := hrel
    have HR := Lib.hid hrun
    clear hrun
    by_cases hlt : k < n
    · obtain ⟨b, off, rfl, hblt, hcell⟩ := (HX.out.below hB) (by have := HN.out; omega)
      obtain ⟨x, hx⟩ := at_some (show k < xs.length by rw [HN.out]; exact hlt)
      have HR2 := Lib.hid (HR.out.trans (by rw [drop_cons hx]; rfl : leftV z (szEfs (xs.drop k)) = leftV z (szE x + szEfs (xs.drop (k + 1)))))
      obtain ⟨A0, c0, e0, e1, hat, hc0, hm0⟩ := hcell k x hx
      have hp := szEfs_pos (xs.drop (k + 1))
      have hp2 := szE_pos x
      have hs := szEffect_any x.k A0 x.pl.length c0 z wr hz1 hz0 hm0
      rw [show leftV z x.pl.length = leftV z (szE x) from rfl] at hs
      clear hcell hx hat
      by_cases hle : z < szE x
      · have HV := Lib.hid (HR2.out.trans (leftV_neg (by omega)))
        rw [leftV_neg hle] at hs
        have HS1 := Lib.hid hs
        clear hs HR2 HR hp hp2 hle
        go_wp2_with (go_at_call 31; ((with_reducible refine HS1.out.mono ?_); rintro e w' ⟨rfl, hb⟩); replace hB := more hB (Nat.le_refl _) hb; clear hb)
        go_ret
        exact ⟨ret_int HV.out.symm, hB⟩
      · have HV := Lib.hid (HR2.out.trans (by unfold leftV; split <;> split <;> omega : leftV z (szE x + szEfs (xs.drop (k + 1))) = leftV (z - szE x) (szEfs (xs.drop (k + 1)))))
        rw [leftV_pos (by omega)] at hs
        have HS1 := Lib.hid hs
        have hq : 0 ≤ z - szE x := by omega
        have hq2 : z - szE x ≤ 1048576 := by omega
        have HQ := Lib.hid hq
        have HQ2 := Lib.hid hq2
        clear hs HR2 HR hp hle
        go_wp2_with (go_at_call 31; ((with_reducible refine HS1.out.mono ?_); rintro e w' ⟨rfl, hb⟩); replace hB := more hB (Nat.le_refl _) hb; clear hb)
        go_roundw
        case rel => exact ⟨k + 1, z - szE x, by omega, by go_num, rfl, HQ.out, HQ2.out, hB, HV.out⟩
        case measure => simp [intOf]; omega
    · have HV := Lib.hid (HR.out.trans (by rw [drop_none (by rw [HN.out]; omega)]; show leftV z 0 = z; unfold leftV; split <;> omega : leftV z (szEfs (xs.drop k)) = z))
      go_wp2_with fail
      go_ret
      exact ⟨ret_int HV.out.symm, hB⟩

def EfX (x : Ef) (n : Nat) (w : World) (e : Ending) (w' : World) : Prop := ∃ ad, e = .returned (.agg #[.int .i64 x.k, .slice (some ad) n n]) ∧ FlR Sl.cells 2 65 w' w.heap.size w'.heap.size (some ad) n x.pl ∧ Below w.heap.size w w'
set_option maxRecDepth 100000 in
set_option maxHeartbeats 1000000 in
theorem toEffect_own (A : Option Addr) (n c : Nat) (x : Ef) (w : World) (hx : SlL w A x.pl) (hn : x.pl.length = n) (hl : n ≤ 1048576) :
    Calls Try.prog 35 #[.agg #[.int .i64 x.k, .slice A n c]] w (EfX x n w) := by
  obtain ⟨k, hk⟩ : ∃ k, x.k = k := ⟨_, rfl⟩
  unfold EfX
  rw [hk]
  have hb1 : Below w.heap.size w (((w.alloc (.cells #[.int .i64 k, .slice A n c] 52)).alloc (.cells #[.int .i64 0, .slice none 0 0] 55)).alloc (.cells #[.int .i64 k, .slice none 0 0] 55)) := by go_grown
  have k1 := fun w h => toSlots_any A c x.pl w h (by omega)
  rw [hn] at k1
  have K := Lib.hid (k1 _ (hx.below hb1))
  have HN := Lib.hid hn
  have a0 : (((w.alloc (.cells #[.int .i64 k, .slice A n c] 52)).alloc (.cells #[.int .i64 0, .slice none 0 0] 55)).alloc (.cells #[.int .i64 k, .slice none 0 0] 55)).cell? ⟨w.heap.size + 0, 0, none⟩ = some (.int .i64 k) := by go_simp
  have a1 : (((w.alloc (.cells #[.int .i64 k, .slice A n c] 52)).alloc (.cells #[.int .i64 0, .slice none 0 0] 55)).alloc (.cells #[.int .i64 k, .slice none 0 0] 55)).cell? ⟨w.heap.size + 0, 1, none⟩ = some (.slice A n c) := by go_simp
  have r0 : (((w.alloc (.cells #[.int .i64 k, .slice A n c] 52)).alloc (.cells #[.int .i64 0, .slice none 0 0] 55)).alloc (.cells #[.int .i64 k, .slice none 0 0] 55)).cell? ⟨w.heap.size + 1, 0, none⟩ = some (.int .i64 0) := by go_simp
  have r1 : (((w.alloc (.cells #[.int .i64 k, .slice A n c] 52)).alloc (.cells #[.int .i64 0, .slice none 0 0] 55)).alloc (.cells #[.int .i64 k, .slice none 0 0] 55)).cell? ⟨w.heap.size + 1, 1, none⟩ = some (.slice none 0 0) := by go_simp
  have o0 : (((w.alloc (.cells #[.int .i64 k, .slice A n c] 52)).alloc (.cells #[.int .i64 0, .slice none 0 0] 55)).alloc (.cells #[.int .i64 k, .slice none 0 0] 55)).cell? ⟨w.heap.size + 1 + 1, 0, none⟩ = some (.int .i64 k) := by go_simp
  have o1 : (((w.alloc (.cells #[.int .i64 k, .slice A n c] 52)).alloc (.cells #[.int .i64 0, .slice none 0 0] 55)).alloc (.cells #[.int .i64 k, .slice none 0 0] 55)).cell? ⟨w.heap.size + 1 + 1, 1, none⟩ = some (.slice none 0 0) := by go_simp
  have rf : ∀ o, (((w.alloc (.cells #[.int .i64 k, .slice A n c] 52)).alloc (.cells #[.int .i64 0, .slice none 0 0] 55)).alloc (.cells #[.int .i64 k, .slice none 0 0] 55)).frozen? ⟨w.heap.size + 1, o, none⟩ = false := fun o => by go_simp
  have of_ : ∀ o, (((w.alloc (.cells #[.int .i64 k, .slice A n c] 52)).alloc (.cells #[.int .i64 0, .slice none 0 0] 55)).alloc (.cells #[.int .i64 k, .slice none 0 0] 55)).frozen? ⟨w.heap.size + 1 + 1, o, none⟩ = false := fun o => by go_simp
  have hz : (((w.alloc (.cells #[.int .i64 k, .slice A n c] 52)).alloc (.cells #[.int .i64 0, .slice none 0 0] 55)).alloc (.cells #[.int .i64 k, .slice none 0 0] 55)).heap.size = w.heap.size + 1 + 1 + 1 := by simp
  have HB := Lib.hid hb1
  rw [Nat.add_zero] at a0 a1
  have HZ := Lib.hid hz
  have HF := Lib.hid (And.intro a0 (And.intro a1 (And.intro r0 (And.intro r1 (And.intro o0 (And.intro o1 (And.intro rf of_)))))))
  have HLT := Lib.hid (show w.heap.size + 1 + 1 < (((w.alloc (.cells #[.int .i64 k, .slice A n c] 52)).alloc (.cells #[.int .i64 0, .slice none 0 0] 55)).alloc (.cells #[.int .i64 k, .slice none 0 0] 55)).heap.size by omega)
  clear hx hn hb1 k1 hz hk a0 a1 r0 r1 o0 o1 rf of_
  go_enter Try.func35, Try.ntmps35
  go_wp2_with fail
  refine K.out.mono ?_
  rintro e w2 ⟨rfl, ho, hb⟩
  obtain ⟨a0, a1, r0, r1, o0, o1, rf, of_⟩ := HF.out
  have hlt := HLT.out
  replace a0 := (hb.cell (p := ⟨w.heap.size, 0, none⟩) (by show w.heap.size < _; have := HLT.out; omega)).trans a0
  replace a1 := (hb.cell (p := ⟨w.heap.size, 1, none⟩) (by show w.heap.size < _; have := HLT.out; omega)).trans a1
  replace r0 := (hb.cell (p := ⟨w.heap.size + 1, 0, none⟩) (by show w.heap.size + 1 < _; have := HLT.out; omega)).trans r0
  replace r1 := (hb.cell (p := ⟨w.heap.size + 1, 1, none⟩) (by show w.heap.size + 1 < _; have := HLT.out; omega)).trans r1
  replace o0 := (hb.cell (p := ⟨w.heap.size + 1 + 1, 0, none⟩) (by show w.heap.size + 1 + 1 < _; have := HLT.out; omega)).trans o0
  replace o1 := (hb.cell (p := ⟨w.heap.size + 1 + 1, 1, none⟩) (by show w.heap.size + 1 + 1 < _; have := HLT.out; omega)).trans o1
  replace rf := fun o => (hb.frozen (p := ⟨w.heap.size + 1, o, none⟩) (by show w.heap.size + 1 < _; omega)).trans (rf o)
  replace of_ := fun o => (hb.frozen (p := ⟨w.heap.size + 1 + 1, o, none⟩) (by show w.heap.size + 1 + 1 < _; omega)).trans (of_ o)
  have HO := Lib.hid ho
  have HB2 := Lib.hid (more HB.out (Nat.le_refl _) hb)
  have hlt2 := Nat.lt_of_lt_of_le hlt hb.size
  clear ho hb HB K
  have hz := HZ.out
  rw [hz] at HO ⊢
  obtain ⟨g, hg⟩ : ∃ g, w.heap.size + 1 + 1 + 1 = g := ⟨_, rfl⟩
  rw [hg] at HO hz ⊢
  have HZ2 := Lib.hid hz
  have HGG := Lib.hid hg
  clear hg hlt hz HZ HLT HF
  go_wp2_with fail
  have hgl := (HO.out.lt g rfl)
  have hz := HGG.out
  have ht : ∀ p q r, Turn (w.heap.size + 1) (w.heap.size + 1 + 1 + 1) w2 (((w2.setCell ⟨w.heap.size + 1 + 1, 1, none⟩ p).setCell ⟨w.heap.size + 1, 0, none⟩ q).setCell ⟨w.heap.size + 1, 1, none⟩ r) := fun p q r => (((turn_set w2 ⟨w.heap.size + 1 + 1, 1, none⟩ p).mono (show w.heap.size + 1 ≤ w.heap.size + 1 + 1 by omega) (Nat.le_refl _)).trans ((turn_set _ ⟨w.heap.size + 1, 0, none⟩ q).mono (Nat.le_refl _) (show w.heap.size + 1 + 1 ≤ w.heap.size + 1 + 1 + 1 by omega))).trans ((turn_set _ ⟨w.heap.size + 1, 1, none⟩ r).mono (Nat.le_refl _) (show w.heap.size + 1 + 1 ≤ w.heap.size + 1 + 1 + 1 by omega))
  have hs : ∀ p q r, (((w2.setCell ⟨w.heap.size + 1 + 1, 1, none⟩ p).setCell ⟨w.heap.size + 1, 0, none⟩ q).setCell ⟨w.heap.size + 1, 1, none⟩ r).heap.size = w2.heap.size := fun p q r => by simp [World.setCell]
  have hown := (ht (.slice (some ⟨g, 0, none⟩) n n) (.int .i64 k) (.slice (some ⟨g, 0, none⟩) n n)).own HO.out (.inr (by omega))
  refine bodyPost_ret (v := .agg #[.int .i64 k, .slice (some ⟨g, 0, none⟩) n n]) (by simp [results, Try.results35, go_sem, *]) rfl ⟨_, rfl, fun _ => ⟨g, rfl, by omega, by rw [hs]; exact hgl.2, by rw [HN.out]; exact World.ownsRow.mono hown (Nat.zero_le _)⟩, ?_⟩
  exact ((HB2.out.setCell (p := ⟨w.heap.size + 1 + 1, 1, none⟩) (by simp; omega) _).setCell (p := ⟨w.heap.size + 1, 0, none⟩) (by simp) _).setCell (p := ⟨w.heap.size + 1, 1, none⟩) (by simp) _
end Go.Proofs.Ytegdpdafaimmoaa
