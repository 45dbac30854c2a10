/- Places: how the laws measure, copy and compare slots. -/
import Derived.Test.YtegdpdafaimmoaaPlc2
import Derived.Deep.AppendLies
import Derived.Deep.DrawnRows
namespace Go.Proofs.Ytegdpdafaimmoaa
open Go.Joins Go.ChangeShapes Go.WideShapes Go.ChangeAt Go.RowKit Go.Deep
set_option linter.unusedVariables false
set_option linter.unusedSimpArgs false

set_option maxHeartbeats 400000 in
theorem szSlots_any (A : Option Addr) (n c : Nat) (left : Int) (w : World) (h : left ≤ 1048576) (h0 : 0 ≤ left) (hn : n ≤ maxLen) :
    Calls Try.prog 17 #[.slice A n c, .int .i64 left] w fun e w' => e = .returned (.int .i64 (if left < n then -1 else left - n)) ∧ w = w' := by
  unfold maxLen at hn
  by_cases hl : left < n
  · rw [if_pos hl]
    go_enter Try.func17, Try.ntmps17
    go_wp2
    go_ret
    exact ⟨rfl, rfl⟩
  · rw [if_neg hl]
    go_enter Try.func17, Try.ntmps17
    go_wp2
    go_ret
    exact ⟨rfl, rfl⟩

set_option maxHeartbeats 400000 in
theorem toSlot_any (x : Sl) (w : World) :
    Calls Try.prog 42 #[.agg #[.int .i64 x.p, .int .i64 x.s]] w fun e w' => e = .returned (.agg #[.int .i64 x.p, .int .i64 x.s]) ∧ Below w.heap.size w w' := by
  obtain ⟨p, s⟩ := x
  go_enter Try.func42, Try.ntmps42
  go_wp2
  exact bodyPost_ret (v := .agg #[.int .i64 p, .int .i64 s]) (by simp [results, Try.results42, go_sem]) rfl ⟨rfl, by go_grown⟩

theorem sl_ways (x y : Sl) : ((x.p == y.p) = false ∧ decide (x = y) = false) ∨ (x.p = y.p ∧ (x.s == y.s) = false ∧ decide (x = y) = false) ∨ x = y := by
  obtain ⟨p, s⟩ := x
  obtain ⟨q, t⟩ := y
  by_cases h1 : p = q
  · by_cases h2 : s = t
    · right; right; rw [h1, h2]
    · right; left; exact ⟨h1, by simpa using h2, by simp [h2]⟩
  · left; exact ⟨by simpa using h1, by simp [h1]⟩
set_option maxHeartbeats 400000 in
theorem eqSlot_any (x y : Sl) (w : World) :
    Calls Try.prog 44 #[.agg #[.int .i64 x.p, .int .i64 x.s], .agg #[.int .i64 y.p, .int .i64 y.s]] w fun e w' => e = .returned (.bool (decide (x = y))) ∧ Below w.heap.size w w' := by
  rcases sl_ways x y with ⟨h1, hv⟩ | ⟨h1, h2, hv⟩ | rfl
  · have HV := Lib.hid hv
    have h1' : (!(x.p == y.p)) = true := by simp [h1]
    have h1'' : (x.p != y.p) = true := h1'
    clear hv
    go_enter Try.func44, Try.ntmps44
    go_wp2
    go_ret
    exact ⟨ret_bool HV.out.symm, by go_grown⟩
  · have HV := Lib.hid hv
    obtain ⟨p, s⟩ := x
    obtain ⟨q, t⟩ := y
    dsimp only at h1 h2
    subst h1
    have h2'' : (s != t) = true := by show (!(s == t)) = true; rw [h2]; rfl
    clear hv
    go_enter Try.func44, Try.ntmps44
    go_wp2
    go_ret
    exact ⟨ret_bool HV.out.symm, by go_grown⟩
  · have HV := Lib.hid (show decide (x = x) = true by simp)
    obtain ⟨p, s⟩ := x
    go_enter Try.func44, Try.ntmps44
    go_wp2
    go_ret
    exact ⟨ret_bool HV.out.symm, by go_grown⟩

/-- Lists of slots, one by one. -/
def eqSl : List Sl → List Sl → Bool
  | [], [] => true
  | x :: xs, y :: ys => decide (x = y) && eqSl xs ys
  | _, _ => false
theorem eqSl_refl : ∀ xs : List Sl, eqSl xs xs = true
  | [] => rfl
  | x :: xs => by simp [eqSl, eqSl_refl xs]
theorem eqSl_len : ∀ (xs ys : List Sl), xs.length ≠ ys.length → eqSl xs ys = false
  | [], [], h => absurd rfl h
  | [], _ :: _, _ => rfl
  | _ :: _, [], _ => rfl
  | x :: xs, y :: ys, h => by simp [eqSl, eqSl_len xs ys (by simpa using h)]
theorem eqSl_iff : ∀ (xs ys : List Sl), eqSl xs ys = decide (xs = ys)
  | [], [] => rfl
  | [], _ :: _ => by simp [eqSl]
  | _ :: _, [] => by simp [eqSl]
  | x :: xs, y :: ys => by
    simp only [eqSl, eqSl_iff xs ys, List.cons.injEq, Bool.decide_and]

set_option maxHeartbeats 1000000 in
theorem eqSlots_any (A A' : Option Addr) (c c' : Nat) (xs ys : List Sl) (w : World) (hx : SlL w A xs) (hy : SlL w A' ys) (hl : xs.length ≤ maxLen) (hl' : ys.length ≤ maxLen) :
    Calls Try.prog 21 #[.slice A xs.length c, .slice A' ys.length c'] w fun e w' => e = .returned (.bool (eqSl xs ys)) ∧ Below w.heap.size w w' := by
  unfold maxLen at hl hl'
  by_cases hlen : xs.length = ys.length
  · obtain ⟨n, hn⟩ : ∃ n, xs.length = n := ⟨_, rfl⟩
    have hn' : ys.length = n := by omega
    rw [hn] at hl ⊢
    rw [hn'] at hl' ⊢
    have HN := Lib.hid hn
    have HN' := Lib.hid hn'
    have HX := Lib.hid hx
    have HY := Lib.hid hy
    clear hx hy hlen hn hn'
    go_enter Try.func21, Try.ntmps21
    go_wp2_with fail
    go_loopw [5] (fun i w2 => ∃ k : Nat, k ≤ n ∧ i = .int .i64 k ∧ Below w.heap.size w w2 ∧ eqSl xs ys = eqSl (xs.drop k) (ys.drop k)) (fun i _ => n - (intOf i).toNat)
    case atStart => exact ⟨0, by omega, rfl, by go_grown, rfl⟩
    case round =>
      obtain ⟨k, hk, rfl, hB, hrun⟩ := hrel
      have HR := Lib.hid hrun
      clear hrun
      by_cases hlt : k < n
      · obtain ⟨b, off, rfl, hblt, hcell⟩ := SlL.at_ (HX.out.below hB) (by have := HN.out; omega)
        obtain ⟨b', off', rfl, hblt', hcell'⟩ := SlL.at_ (HY.out.below hB) (by have := HN'.out; omega)
        obtain ⟨x, hx⟩ := at_some (show k < xs.length by rw [HN.out]; exact hlt)
        obtain ⟨y, hy⟩ := at_some (show k < ys.length by rw [HN'.out]; exact hlt)
        have HR2 := Lib.hid (HR.out.trans (by rw [drop_cons hx, drop_cons hy]; rfl : eqSl (xs.drop k) (ys.drop k) = (decide (x = y) && eqSl (xs.drop (k + 1)) (ys.drop (k + 1)))))
        obtain ⟨c0, c1⟩ := hcell k x hx
        obtain ⟨d0, d1⟩ := hcell' k y hy
        clear hcell hx hcell' hy
        have hs := eqSlot_any x y
        obtain ⟨p, s⟩ := x
        obtain ⟨q, t⟩ := y
        dsimp only at c0 c1 d0 d1 hs
        have hi1 : (0 : Int) ≤ (k : Int) := by omega
        have hi2 : (k : Int) < (n : Int) := by omega
        cases hok : decide ((⟨p, s⟩ : Sl) = ⟨q, t⟩)
        · rw [hok] at hs HR2
          have HS1 := Lib.hid hs
          have hv2 := Lib.hid (HR2.out.trans (Bool.false_and _))
          clear hs hok HR2 HR
          go_wp2_with fail
          go_region_held3 (fun w' => w'.cell? ⟨b, off + k * 2, none⟩ = some (.int .i64 p) ∧ w'.cell? ⟨b, off + k * 2 + 1, none⟩ = some (.int .i64 s) ∧ w'.cell? ⟨b', off' + k * 2, none⟩ = some (.int .i64 q) ∧ w'.cell? ⟨b', off' + k * 2 + 1, none⟩ = some (.int .i64 t)) (go_keep)
            (first | (go_at_call 44; refine (HS1.out _).mono ?_; rintro e w' ⟨rfl, hb⟩; replace c0 := (hb.cell (p := ⟨b, off + k * 2, none⟩) hblt).trans c0; replace c1 := (hb.cell (p := ⟨b, off + k * 2 + 1, none⟩) hblt).trans c1; replace d0 := (hb.cell (p := ⟨b', off' + k * 2, none⟩) hblt').trans d0; replace d1 := (hb.cell (p := ⟨b', off' + k * 2 + 1, none⟩) hblt').trans d1; replace hB := more (W1 := _) (B := w.heap.size) (W0 := w) (by go_grown) (Nat.le_refl _) hb; clear hb))
          go_wp2_with fail
          go_ret
          exact ⟨ret_bool hv2.out.symm, hB⟩
        · rw [hok] at hs HR2
          have HS1 := Lib.hid hs
          clear hs hok HR
          go_wp2_with fail
          go_region_held3 (fun w' => w'.cell? ⟨b, off + k * 2, none⟩ = some (.int .i64 p) ∧ w'.cell? ⟨b, off + k * 2 + 1, none⟩ = some (.int .i64 s) ∧ w'.cell? ⟨b', off' + k * 2, none⟩ = some (.int .i64 q) ∧ w'.cell? ⟨b', off' + k * 2 + 1, none⟩ = some (.int .i64 t)) (go_keep)
            (first | (go_at_call 44; refine (HS1.out _).mono ?_; rintro e w' ⟨rfl, hb⟩; replace c0 := (hb.cell (p := ⟨b, off + k * 2, none⟩) hblt).trans c0; replace c1 := (hb.cell (p := ⟨b, off + k * 2 + 1, none⟩) hblt).trans c1; replace d0 := (hb.cell (p := ⟨b', off' + k * 2, none⟩) hblt').trans d0; replace d1 := (hb.cell (p := ⟨b', off' + k * 2 + 1, none⟩) hblt').trans d1; replace hB := more (W1 := _) (B := w.heap.size) (W0 := w) (by go_grown) (Nat.le_refl _) hb; clear hb))
          go_wp2_with fail
          go_roundw
          case rel => exact ⟨k + 1, by omega, by go_num, hB, HR2.out.trans (Bool.true_and _)⟩
          case measure => simp [intOf]; omega
      · have hv2 := Lib.hid (HR.out.trans (by rw [drop_none (by rw [HN.out]; omega), drop_none (by rw [HN'.out]; omega)]; rfl : _ = true))
        go_wp2_with fail
        go_ret
        exact ⟨ret_bool hv2.out.symm, hB⟩
  · have hv := Lib.hid (eqSl_len xs ys hlen)
    have hd : ((xs.length : Int) == (ys.length : Int)) = false := by simp; omega
    have hd2 : ((xs.length : Int) != (ys.length : Int)) = true := by show (!((xs.length : Int) == (ys.length : Int))) = true; rw [hd]; rfl
    clear hlen
    go_enter Try.func21, Try.ntmps21
    go_wp2_with fail
    go_ret
    exact ⟨ret_bool hv.out.symm, by go_grown⟩
end Go.Proofs.Ytegdpdafaimmoaa
