/- Formulas: what the document's own text answers of a whole one. -/
import Derived.Test.YtgejhjhjdepmmaaForm1
namespace Go.Proofs.Ytgejhjhjdepmmaa
open Go.Joins Go.ChangeShapes Go.WideShapes Go.ChangeAt Go.RowKit Go.Deep
set_option linter.unusedVariables false
set_option linter.unusedSimpArgs false

/-- Steps lie in memory. -/
def Lies (w : World) (A : Option Addr) (xs : List Stp) : Prop :=
  0 < xs.length → ∃ b off, A = some ⟨b, off, none⟩ ∧ b < w.heap.size ∧ ∀ i (x : Stp), xs[i]? = some x →
    w.cell? ⟨b, off + i * 5, none⟩ = some (.int .i64 x.k) ∧ w.cell? ⟨b, off + i * 5 + 1, none⟩ = some (.int .i64 x.a) ∧ w.cell? ⟨b, off + i * 5 + 2, none⟩ = some (.int .i64 x.vk) ∧
      w.cell? ⟨b, off + i * 5 + 3, none⟩ = some (.int .i64 x.vn) ∧ w.cell? ⟨b, off + i * 5 + 4, none⟩ = some (.string x.vs)
theorem Lies.below {w w' : World} {A : Option Addr} {xs : List Stp} (h : Lies w A xs) (hb : Below w.heap.size w w') : Lies w' A xs := fun h0 => by
  obtain ⟨b, off, rfl, hlt, hc⟩ := h h0
  refine ⟨b, off, rfl, Nat.lt_of_lt_of_le hlt hb.size, fun i x hx => ?_⟩
  obtain ⟨c0, c1, c2, c3, c4⟩ := hc i x hx
  exact ⟨(hb.cell (p := ⟨b, _, none⟩) hlt).trans c0, (hb.cell (p := ⟨b, _, none⟩) hlt).trans c1, (hb.cell (p := ⟨b, _, none⟩) hlt).trans c2, (hb.cell (p := ⟨b, _, none⟩) hlt).trans c3, (hb.cell (p := ⟨b, _, none⟩) hlt).trans c4⟩

set_option maxHeartbeats 400000 in
theorem vform_any (A : Option Addr) (c : Nat) (xs : List Stp) (p st t : Int) (w : World) (hx : Lies w A xs) (hl : xs.length ≤ maxLen) (hp : 0 ≤ p ∧ p ≤ 3) (hst : 0 ≤ st ∧ st ≤ 3) (ht : 0 ≤ t ∧ t ≤ 4) :
    Calls Try.prog 32 #[.slice A xs.length c, .int .i64 p, .int .i64 st, .int .i64 t] w fun e w' => e = .returned (.bool (formB opS xs p st t)) ∧ Below w.heap.size w w' := by
  unfold maxLen at hl
  obtain ⟨n, hn⟩ : ∃ n, xs.length = n := ⟨_, rfl⟩
  rw [hn] at hl ⊢
  have HN := Lib.hid hn
  have HX := Lib.hid hx
  have HP := Lib.hid hp
  have HS := Lib.hid hst
  have HT := Lib.hid ht
  clear hx hp hst ht
  by_cases h9 : n ≤ 9
  · have hd : decide (9 < (n : Int)) = false := by simp; omega
    have hv := Lib.hid (show formB opS xs p st t = runB (fun x => stepB opS x p st t) 0 xs by unfold formB; rw [decide_eq_true (by omega)]; rfl)
    clear hn
    go_enter Try.func32, Try.ntmps32
    go_wp2_with fail
    go_loopw [9, 10] (fun m i w2 => ∃ (k : Nat) (m' : Int), k ≤ n ∧ 0 ≤ m' ∧ m' ≤ k ∧ m = .int .i64 m' ∧ i = .int .i64 k ∧ Below w.heap.size w w2 ∧ runB (fun x => stepB opS x p st t) 0 xs = runB (fun x => stepB opS x p st t) m' (xs.drop k)) (fun _ i _ => n - (intOf i).toNat)
    case atStart => exact ⟨0, 0, by omega, by omega, by omega, rfl, rfl, by go_grown, rfl⟩
    case round =>
      obtain ⟨k, m', hk, hm0, hmk, rfl, rfl, hB, hrun⟩ := hrel
      have HR := Lib.hid hrun
      clear hrun
      by_cases hlt : k < n
      · obtain ⟨b, off, rfl, hblt, hcell⟩ := HX.out (by have := HN.out; omega)
        have hkx : k < xs.length := by rw [HN.out]; exact hlt
        obtain ⟨x, hx⟩ : ∃ x, xs[k]? = some x := ⟨_, List.getElem?_eq_getElem hkx⟩
        have hdr : xs.drop k = x :: xs.drop (k + 1) := by
          rw [List.drop_eq_getElem_cons hkx]
          rw [List.getElem?_eq_getElem hkx] at hx
          injection hx with hx
          rw [hx]
        have HR2 := Lib.hid (HR.out.trans (by rw [hdr]; rfl : runB (fun x => stepB opS x p st t) m' (xs.drop k) = (stepB opS x p st t && decide (takesV x.k ≤ m') && runB (fun x => stepB opS x p st t) (m' - takesV x.k + 1) (xs.drop (k + 1)))))
        obtain ⟨c0, c1, c2, c3, c4⟩ := hcell k x hx
        have HC := Lib.hid hcell
        have HXX := Lib.hid hx
        have HD := Lib.hid hdr
        clear hcell hx hdr
        have a0 := (hB.cell (p := ⟨b, off + k * 5, none⟩) hblt).trans c0
        have a1 := (hB.cell (p := ⟨b, off + k * 5 + 1, none⟩) hblt).trans c1
        have a2 := (hB.cell (p := ⟨b, off + k * 5 + 2, none⟩) hblt).trans c2
        have a3 := (hB.cell (p := ⟨b, off + k * 5 + 3, none⟩) hblt).trans c3
        have a4 := (hB.cell (p := ⟨b, off + k * 5 + 4, none⟩) hblt).trans c4
        clear c0 c1 c2 c3 c4
        have hs := vstep_any x p st t
        have HTK := Lib.hid (takes_spec x.k x.a x.vk x.vn x.vs)
        obtain ⟨t0, t3⟩ := takesV_bd x.k
        cases hok : stepB opS x p st t
        · rw [hok] at hs HR2
          have HS1 := Lib.hid hs
          have hv2 := Lib.hid (hv.out.trans (HR2.out.trans rfl))
          clear hs hok HR2 HR hv
          go_wp2_with (go_at_call 47; refine (HS1.out _ HP.out HS.out HT.out).mono ?_; rintro e w' ⟨rfl, hb⟩; replace a0 := (hb.cell (p := ⟨b, off + k * 5, none⟩) (Nat.lt_of_lt_of_le hblt hB.size)).trans a0; replace a1 := (hb.cell (p := ⟨b, off + k * 5 + 1, none⟩) (Nat.lt_of_lt_of_le hblt hB.size)).trans a1; replace a2 := (hb.cell (p := ⟨b, off + k * 5 + 2, none⟩) (Nat.lt_of_lt_of_le hblt hB.size)).trans a2; replace a3 := (hb.cell (p := ⟨b, off + k * 5 + 3, none⟩) (Nat.lt_of_lt_of_le hblt hB.size)).trans a3; replace a4 := (hb.cell (p := ⟨b, off + k * 5 + 4, none⟩) (Nat.lt_of_lt_of_le hblt hB.size)).trans a4; replace hB := hB.trans (hb.mono hB.size); clear hb)
          go_ret
          exact ⟨ret_bool hv2.out.symm, hB⟩
        · rw [hok] at hs HR2
          have HS1 := Lib.hid hs
          clear hs hok HR
          generalize htk : takesV x.k = tk at *
          have HTKE := Lib.hid htk
          clear htk
          by_cases hle : tk ≤ m'
          · have hd1 : decide (m' < tk) = false := by simp; omega
            have HR3 := Lib.hid (hv.out.trans (HR2.out.trans (by rw [decide_eq_true hle]; rfl : _ = runB (fun x => stepB opS x p st t) (m' - tk + 1) (xs.drop (k + 1)))))
            go_wp2_with (first
              | (go_at_call 47; refine (HS1.out _ HP.out HS.out HT.out).mono ?_; rintro e w' ⟨rfl, hb⟩; replace a0 := (hb.cell (p := ⟨b, off + k * 5, none⟩) (Nat.lt_of_lt_of_le hblt hB.size)).trans a0; replace a1 := (hb.cell (p := ⟨b, off + k * 5 + 1, none⟩) (Nat.lt_of_lt_of_le hblt hB.size)).trans a1; replace a2 := (hb.cell (p := ⟨b, off + k * 5 + 2, none⟩) (Nat.lt_of_lt_of_le hblt hB.size)).trans a2; replace a3 := (hb.cell (p := ⟨b, off + k * 5 + 3, none⟩) (Nat.lt_of_lt_of_le hblt hB.size)).trans a3; replace a4 := (hb.cell (p := ⟨b, off + k * 5 + 4, none⟩) (Nat.lt_of_lt_of_le hblt hB.size)).trans a4; replace hB := hB.trans (hb.mono hB.size); clear hb)
              | (go_at_call 48; refine (HTK.out _).mono ?_; rintro e w' ⟨rfl, hb⟩; replace a0 := (hb.cell (p := ⟨b, off + k * 5, none⟩) (Nat.lt_of_lt_of_le hblt hB.size)).trans a0; replace a1 := (hb.cell (p := ⟨b, off + k * 5 + 1, none⟩) (Nat.lt_of_lt_of_le hblt hB.size)).trans a1; replace a2 := (hb.cell (p := ⟨b, off + k * 5 + 2, none⟩) (Nat.lt_of_lt_of_le hblt hB.size)).trans a2; replace a3 := (hb.cell (p := ⟨b, off + k * 5 + 3, none⟩) (Nat.lt_of_lt_of_le hblt hB.size)).trans a3; replace a4 := (hb.cell (p := ⟨b, off + k * 5 + 4, none⟩) (Nat.lt_of_lt_of_le hblt hB.size)).trans a4; replace hB := hB.trans (hb.mono hB.size); clear hb))
            go_roundw
            case rel => exact ⟨k + 1, m' - tk + 1, by omega, by omega, by omega, by go_num, by go_num, hB, hv.out.symm.trans HR3.out⟩
            case measure => simp [intOf]; omega
          · have hd1 : decide (m' < tk) = true := by simp; omega
            have HR3 := Lib.hid (hv.out.trans (HR2.out.trans (by rw [decide_eq_false hle]; rfl : _ = false)))
            go_wp2_with (first
              | (go_at_call 47; refine (HS1.out _ HP.out HS.out HT.out).mono ?_; rintro e w' ⟨rfl, hb⟩; replace a0 := (hb.cell (p := ⟨b, off + k * 5, none⟩) (Nat.lt_of_lt_of_le hblt hB.size)).trans a0; replace a1 := (hb.cell (p := ⟨b, off + k * 5 + 1, none⟩) (Nat.lt_of_lt_of_le hblt hB.size)).trans a1; replace a2 := (hb.cell (p := ⟨b, off + k * 5 + 2, none⟩) (Nat.lt_of_lt_of_le hblt hB.size)).trans a2; replace a3 := (hb.cell (p := ⟨b, off + k * 5 + 3, none⟩) (Nat.lt_of_lt_of_le hblt hB.size)).trans a3; replace a4 := (hb.cell (p := ⟨b, off + k * 5 + 4, none⟩) (Nat.lt_of_lt_of_le hblt hB.size)).trans a4; replace hB := hB.trans (hb.mono hB.size); clear hb)
              | (go_at_call 48; refine (HTK.out _).mono ?_; rintro e w' ⟨rfl, hb⟩; replace a0 := (hb.cell (p := ⟨b, off + k * 5, none⟩) (Nat.lt_of_lt_of_le hblt hB.size)).trans a0; replace a1 := (hb.cell (p := ⟨b, off + k * 5 + 1, none⟩) (Nat.lt_of_lt_of_le hblt hB.size)).trans a1; replace a2 := (hb.cell (p := ⟨b, off + k * 5 + 2, none⟩) (Nat.lt_of_lt_of_le hblt hB.size)).trans a2; replace a3 := (hb.cell (p := ⟨b, off + k * 5 + 3, none⟩) (Nat.lt_of_lt_of_le hblt hB.size)).trans a3; replace a4 := (hb.cell (p := ⟨b, off + k * 5 + 4, none⟩) (Nat.lt_of_lt_of_le hblt hB.size)).trans a4; replace hB := hB.trans (hb.mono hB.size); clear hb))
            go_ret
            exact ⟨ret_bool HR3.out.symm, hB⟩
      · have hkn : k = n := by omega
        have hv2 := Lib.hid (hv.out.trans (HR.out.trans (by rw [List.drop_eq_nil_of_le (by rw [HN.out]; omega)]; rfl : _ = decide (m' = 1))))
        clear hkn
        by_cases h1 : m' = 1
        · subst h1
          go_wp2_with fail
          go_ret
          exact ⟨ret_bool (hv2.out.trans (by simp)).symm, hB⟩
        · have h1' : (m' == 1) = false := by simpa using h1
          have hv3 := Lib.hid (hv2.out.trans (by simp [h1] : _ = false))
          clear h1
          go_wp2_with fail
          go_ret
          exact ⟨ret_bool hv3.out.symm, hB⟩
  · have hd : decide (9 < (n : Int)) = true := by simp; omega
    have hv := Lib.hid (show formB opS xs p st t = false by unfold formB; rw [decide_eq_false (by omega)]; rfl)
    clear hn
    go_enter Try.func32, Try.ntmps32
    go_wp2_with fail
    go_ret
    exact ⟨ret_bool hv.out.symm, by go_grown⟩

end Go.Proofs.Ytgejhjhjdepmmaa
