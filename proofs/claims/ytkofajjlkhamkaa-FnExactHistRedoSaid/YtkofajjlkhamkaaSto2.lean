/- Stores: how the laws copy and compare lists of values. -/
import Derived.Test.YtkofajjlkhamkaaSto1
import Derived.Lib.Strings
namespace Go.Proofs.Ytkofajjlkhamkaa
open Go.Joins Go.ChangeShapes Go.WideShapes Go.ChangeAt Go.RowKit Go.Deep
set_option linter.unusedVariables false
set_option linter.unusedSimpArgs false

theorem infoVa : (Try.prog.info? 82).map (fun i => (i.zero, i.size, i.bytes)) = some (some (.agg #[.int .i64 0, .int .i64 0, .string ⟨#[]⟩]), 3, 32) := by kernel_rfl
theorem len_vcells (xs : List Va) : (xs.flatMap Va.cells).length = xs.length * 3 := by
  induction xs with
  | nil => rfl
  | cons x xs ih => rw [List.flatMap_cons, List.length_append, ih]; simp [Va.cells]; omega
theorem take_three {L : List Value} {xs : List Va} {k : Nat} {x : Va} (hL : k * 3 + 2 < L.length) (h : L.take (k * 3) = (xs.take k).flatMap Va.cells) (hx : xs[k]? = some x) :
    (((L.set (k * 3) (.int .i64 x.k)).set (k * 3 + 1) (.int .i64 x.n)).set (k * 3 + 2) (.string x.s)).take ((k + 1) * 3) = (xs.take (k + 1)).flatMap Va.cells := by
  obtain ⟨hk, e⟩ := List.getElem?_eq_some_iff.1 hx
  rw [List.take_succ_eq_append_getElem hk, List.flatMap_append, ← h, e]
  apply List.ext_getElem?
  intro j
  rcases (by omega : j < k * 3 ∨ j = k * 3 ∨ j = k * 3 + 1 ∨ j = k * 3 + 2 ∨ k * 3 + 3 ≤ j) with hj | rfl | rfl | rfl | hj
  · rw [List.getElem?_append_left (by simp; omega), List.getElem?_take, if_pos (by omega), List.getElem?_take, if_pos hj, List.getElem?_set_ne (by omega), List.getElem?_set_ne (by omega), List.getElem?_set_ne (by omega)]
  · rw [List.getElem?_append_right (by simp; omega), List.getElem?_take, if_pos (by omega), List.getElem?_set_ne (by omega), List.getElem?_set_ne (by omega), List.getElem?_set_self (by omega)]
    have : k * 3 - (L.take (k * 3)).length = 0 := by simp; omega
    rw [this]; rfl
  · rw [List.getElem?_append_right (by simp; omega), List.getElem?_take, if_pos (by omega), List.getElem?_set_ne (by omega), List.getElem?_set_self (by simp; omega)]
    have : k * 3 + 1 - (L.take (k * 3)).length = 1 := by simp; omega
    rw [this]; rfl
  · rw [List.getElem?_append_right (by simp; omega), List.getElem?_take, if_pos (by omega), List.getElem?_set_self (by simp; omega)]
    have : k * 3 + 2 - (L.take (k * 3)).length = 2 := by simp; omega
    rw [this]; rfl
  · rw [List.getElem?_eq_none (by simp; omega), List.getElem?_eq_none (by simp [Va.cells]; omega)]

set_option maxHeartbeats 1000000 in
theorem toVals_any (A : Option Addr) (c n : Nat) (xs : List Va) (w : World) (hx : VaL w A xs) (hn : xs.length = n) (hl : n ≤ 1048576) :
    Calls Try.prog 52 #[.slice A n c] w fun e w' => e = .returned (.slice (some ⟨w.heap.size, 0, none⟩) n n) ∧
      w'.ownsRow w.heap.size 82 3 (.slice (some ⟨w.heap.size, 0, none⟩) n n) n (xs.flatMap Va.cells) ∧ Below w.heap.size w w' := by
  have HN := Lib.hid hn
  have HX := Lib.hid hx
  clear hx hn
  obtain ⟨i0, hi, hz0, hz1, hz2⟩ := info_parts infoVa
  have HZ2 := Lib.hid hz2
  clear hz2
  go_enter Try.func52, Try.ntmps52
  go_wp2_with (at_make; refine wpList_make_full _ rfl _ _ 58 rfl w.heap.size 82 i0 (.agg #[.int .i64 0, .int .i64 0, .string ⟨#[]⟩]) 3 Try.underlying58 hi hz0 hz1 .i64 .i64 _ _ n rfl rfl rfl rfl (by rw [HZ2.out]; omega) (by unfold maxLen; omega) (Nat.le_refl _) ?_; rintro w1 hown hgrow)
  have hB1 : Below w.heap.size w w1 := grown_below hgrow
  have hg1 : w.heap.size < w1.heap.size := (hown.lt _ rfl).2
  have HO := Lib.hid hown
  clear hown hgrow hi hz0 hz1
  go_loopw [4] (fun i wr => ∃ (k : Nat) (L : List Value), k ≤ n ∧ i = .int .i64 k ∧ wr.ownsRow w.heap.size 82 3 (.slice (some ⟨w.heap.size, 0, none⟩) n n) n L ∧ L.take (k * 3) = (xs.take k).flatMap Va.cells ∧ Below w.heap.size w wr) (fun i _ => n - (intOf i).toNat)
  case atStart => exact ⟨0, _, by omega, rfl, HO.out, rfl, hB1⟩
  case round =>
    obtain ⟨k, L, hk, rfl, hown, htk, hB⟩ := hrel
    have HT := Lib.hid htk
    have HO2 := Lib.hid hown
    have hgl : w.heap.size < wr.heap.size := (hown.lt _ rfl).2
    clear htk hown
    by_cases hlt : k < n
    · obtain ⟨b, off, rfl, hblt, hcell⟩ := VaL.at_ HX.out (by have := HN.out; omega)
      obtain ⟨x, hx⟩ := at_some (show k < xs.length by rw [HN.out]; exact hlt)
      obtain ⟨c0, c1, c2⟩ := hcell k x hx
      have c0' := (hB.cell (p := ⟨b, off + k * 3, none⟩) hblt).trans c0
      have c1' := (hB.cell (p := ⟨b, off + k * 3 + 1, none⟩) hblt).trans c1
      have c2' := (hB.cell (p := ⟨b, off + k * 3 + 2, none⟩) hblt).trans c2
      have hs := toValue_any x.k x.n x.s
      have HXK := Lib.hid hx
      clear hcell hx c0 c1 c2
      obtain ⟨p, q, s⟩ := x
      dsimp only at c0' c1' c2' hs
      go_wp2_with fail
      refine (hs _).mono ?_
      rintro e w2 ⟨rfl, hb⟩
      have hO3 := ownsRow_below HO2.out hb
      have hLl : L.length = n * 3 := hO3.1
      obtain ⟨u0, d0⟩ : ∃ u, w2.cell? ⟨w.heap.size, k * 3, none⟩ = some u := ⟨_, (hO3.cellAt (k * 3) (by omega)).trans (List.getElem?_eq_getElem (show k * 3 < L.length by omega))⟩
      obtain ⟨u1, d1⟩ : ∃ u, w2.cell? ⟨w.heap.size, k * 3 + 1, none⟩ = some u := ⟨_, (hO3.cellAt (k * 3 + 1) (by omega)).trans (List.getElem?_eq_getElem (show k * 3 + 1 < L.length by omega))⟩
      obtain ⟨u2, d2⟩ : ∃ u, w2.cell? ⟨w.heap.size, k * 3 + 2, none⟩ = some u := ⟨_, (hO3.cellAt (k * 3 + 2) (by omega)).trans (List.getElem?_eq_getElem (show k * 3 + 2 < L.length by omega))⟩
      have f0 := hO3.frozenAt (k * 3)
      have f1 := hO3.frozenAt (k * 3 + 1)
      have f2 := hO3.frozenAt (k * 3 + 2)
      have HO3 := Lib.hid hO3
      have HLl := Lib.hid hLl
      have HB2 := Lib.hid (more hB (Nat.le_refl _) hb)
      clear hO3 hLl hb hs c0' c1' c2'
      go_wp2_with fail
      obtain ⟨s1, g1⟩ := HO3.out.stored (k * 3) (.int .i64 p)
      obtain ⟨s2, g2⟩ := s1.stored (k * 3 + 1) (.int .i64 q)
      obtain ⟨s3, g3⟩ := s2.stored (k * 3 + 2) (.string s)
      go_roundw
      case rel => exact ⟨k + 1, _, by omega, by go_num, s3, take_three (x := ⟨p, q, s⟩) (by have := HLl.out; omega) HT.out HXK.out, ((HB2.out.setCell (Nat.le_refl _) _).setCell (Nat.le_refl _) _).setCell (Nat.le_refl _) _⟩
      case measure => simp [intOf]; omega
    · obtain rfl : k = n := by omega
      have e : L = xs.flatMap Va.cells := by
        have := HT.out
        rw [List.take_of_length_le (by rw [HO2.out.1]; exact Nat.le_refl _), List.take_of_length_le (by rw [HN.out]; exact Nat.le_refl _)] at this
        exact this
      have HO3 := HO2.out
      rw [e] at HO3
      have HO4 := Lib.hid HO3
      clear HO3 e
      go_wp2_with fail
      go_ret
      exact ⟨rfl, HO4.out, hB⟩

theorem va_ways (x y : Va) : ((x.k == y.k) = false ∧ decide (x = y) = false) ∨ (x.k = y.k ∧ (x.n == y.n) = false ∧ decide (x = y) = false) ∨ (x.k = y.k ∧ x.n = y.n ∧ x.s ≠ y.s ∧ decide (x = y) = false) ∨ x = y := by
  obtain ⟨p, q, s⟩ := x
  obtain ⟨p', q', s'⟩ := y
  by_cases h1 : p = p'
  · by_cases h2 : q = q'
    · by_cases h3 : s = s'
      · right; right; right; rw [h1, h2, h3]
      · right; right; left; exact ⟨h1, h2, h3, by simp [h3]⟩
    · right; left; exact ⟨h1, by simpa using h2, by simp [h2]⟩
  · left; exact ⟨by simpa using h1, by simp [h1]⟩
theorem bytes_ne {s t : ByteArray} (h : s ≠ t) : (s.toList == t.toList) = false := by
  rw [Lib.toList_data, Lib.toList_data, beq_eq_false_iff_ne]
  intro e
  exact h (ByteArray.ext (Array.toList_inj.1 e))
set_option maxHeartbeats 400000 in
theorem eqValue_any (x y : Va) (w : World) :
    Calls Try.prog 79 #[.agg #[.int .i64 x.k, .int .i64 x.n, .string x.s], .agg #[.int .i64 y.k, .int .i64 y.n, .string y.s]] w fun e w' => e = .returned (.bool (decide (x = y))) ∧ Below w.heap.size w w' := by
  rcases va_ways x y with ⟨h1, hv⟩ | ⟨h1, h2, hv⟩ | ⟨h1, h2, h3, hv⟩ | rfl
  · have HV := Lib.hid hv
    have h1'' : (x.k != y.k) = true := by show (!(x.k == y.k)) = true; rw [h1]; rfl
    clear hv
    go_enter Try.func79, Try.ntmps79
    go_wp2
    go_ret
    exact ⟨ret_bool HV.out.symm, by go_grown⟩
  · have HV := Lib.hid hv
    obtain ⟨p, q, s⟩ := x
    obtain ⟨p', q', s'⟩ := y
    dsimp only at h1 h2
    subst h1
    have h2'' : (q != q') = true := by show (!(q == q')) = true; rw [h2]; rfl
    clear hv
    go_enter Try.func79, Try.ntmps79
    go_wp2
    go_ret
    exact ⟨ret_bool HV.out.symm, by go_grown⟩
  · have HV := Lib.hid hv
    obtain ⟨p, q, s⟩ := x
    obtain ⟨p', q', s'⟩ := y
    dsimp only at h1 h2 h3
    subst h1
    subst h2
    have h4 := bytes_ne h3
    clear hv h3
    go_enter Try.func79, Try.ntmps79
    go_wp2
    go_ret
    exact ⟨ret_bool HV.out.symm, by go_grown⟩
  · have HV := Lib.hid (show decide (x = x) = true by simp)
    obtain ⟨p, q, s⟩ := x
    go_enter Try.func79, Try.ntmps79
    go_wp2
    go_ret
    exact ⟨ret_bool HV.out.symm, by go_grown⟩

/-- Lists of values, one by one. -/
def eqVs : List Va → List Va → Bool
  | [], [] => true
  | x :: xs, y :: ys => decide (x = y) && eqVs xs ys
  | _, _ => false
theorem eqVs_refl : ∀ xs : List Va, eqVs xs xs = true
  | [] => rfl
  | x :: xs => by simp [eqVs, eqVs_refl xs]
theorem eqVs_len : ∀ (xs ys : List Va), xs.length ≠ ys.length → eqVs xs ys = false
  | [], [], h => absurd rfl h
  | [], _ :: _, _ => rfl
  | _ :: _, [], _ => rfl
  | x :: xs, y :: ys, h => by simp [eqVs, eqVs_len xs ys (by simpa using h)]
set_option maxHeartbeats 1000000 in
theorem eqVals_any (A A' : Option Addr) (c c' n m : Nat) (xs ys : List Va) (w : World) (hx : VaL w A xs) (hy : VaL w A' ys) (hn : xs.length = n) (hm : ys.length = m) (hl : n ≤ maxLen) (hl' : m ≤ maxLen) :
    Calls Try.prog 63 #[.slice A n c, .slice A' m c'] w fun e w' => e = .returned (.bool (eqVs xs ys)) ∧ Below w.heap.size w w' := by
  unfold maxLen at hl hl'
  have HN := Lib.hid hn
  have HN' := Lib.hid hm
  by_cases hlen : n = m
  · subst hlen
    have HX := Lib.hid hx
    have HY := Lib.hid hy
    clear hx hy hn hm
    go_enter Try.func63, Try.ntmps63
    go_wp2_with fail
    go_loopw [5] (fun i w2 => ∃ k : Nat, k ≤ n ∧ i = .int .i64 k ∧ Below w.heap.size w w2 ∧ eqVs xs ys = eqVs (xs.drop k) (ys.drop k)) (fun i _ => n - (intOf i).toNat)
    case atStart => exact ⟨0, by omega, rfl, by go_grown, rfl⟩
    case round =>
      obtain ⟨k, hk, rfl, hB, hrun⟩ := hrel
      have HR := Lib.hid hrun
      clear hrun
      by_cases hlt : k < n
      · obtain ⟨b, off, rfl, hblt, hcell⟩ := VaL.at_ (HX.out.below hB) (by have := HN.out; omega)
        obtain ⟨b', off', rfl, hblt', hcell'⟩ := VaL.at_ (HY.out.below hB) (by have := HN'.out; omega)
        obtain ⟨x, hx⟩ := at_some (show k < xs.length by rw [HN.out]; exact hlt)
        obtain ⟨y, hy⟩ := at_some (show k < ys.length by rw [HN'.out]; exact hlt)
        have HR2 := Lib.hid (HR.out.trans (by rw [drop_cons hx, drop_cons hy]; rfl : eqVs (xs.drop k) (ys.drop k) = (decide (x = y) && eqVs (xs.drop (k + 1)) (ys.drop (k + 1)))))
        obtain ⟨c0, c1, c2⟩ := hcell k x hx
        obtain ⟨d0, d1, d2⟩ := hcell' k y hy
        clear hcell hx hcell' hy
        have hs := eqValue_any x y
        obtain ⟨p, q, s⟩ := x
        obtain ⟨p', q', s'⟩ := y
        dsimp only at c0 c1 c2 d0 d1 d2 hs
        have hi1 : (0 : Int) ≤ (k : Int) := by omega
        have hi2 : (k : Int) < (n : Int) := by omega
        cases hok : decide ((⟨p, q, s⟩ : Va) = ⟨p', q', s'⟩)
        · rw [hok] at hs HR2
          have HS1 := Lib.hid hs
          have hv2 := Lib.hid (HR2.out.trans (Bool.false_and _))
          clear hs hok HR2 HR
          go_wp2_with fail
          go_region_held3 (fun w' => w'.cell? ⟨b, off + k * 3, none⟩ = some (.int .i64 p) ∧ w'.cell? ⟨b, off + k * 3 + 1, none⟩ = some (.int .i64 q) ∧ w'.cell? ⟨b, off + k * 3 + 2, none⟩ = some (.string s) ∧ w'.cell? ⟨b', off' + k * 3, none⟩ = some (.int .i64 p') ∧ w'.cell? ⟨b', off' + k * 3 + 1, none⟩ = some (.int .i64 q') ∧ w'.cell? ⟨b', off' + k * 3 + 2, none⟩ = some (.string s')) (go_keep) (first | (go_at_call 79; refine (HS1.out _).mono ?_; rintro e w' ⟨rfl, hb⟩; replace c0 := (hb.cell (p := ⟨b, off + k * 3, none⟩) hblt).trans c0; replace c1 := (hb.cell (p := ⟨b, off + k * 3 + 1, none⟩) hblt).trans c1; replace c2 := (hb.cell (p := ⟨b, off + k * 3 + 2, none⟩) hblt).trans c2; replace d0 := (hb.cell (p := ⟨b', off' + k * 3, none⟩) hblt').trans d0; replace d1 := (hb.cell (p := ⟨b', off' + k * 3 + 1, none⟩) hblt').trans d1; replace d2 := (hb.cell (p := ⟨b', off' + k * 3 + 2, none⟩) hblt').trans d2; replace hB := more (W1 := _) (B := w.heap.size) (W0 := w) (by go_grown) (Nat.le_refl _) hb; clear hb))
          go_wp2_with fail
          go_ret
          exact ⟨ret_bool hv2.out.symm, hB⟩
        · rw [hok] at hs HR2
          have HS1 := Lib.hid hs
          clear hs hok HR
          go_wp2_with fail
          go_region_held3 (fun w' => w'.cell? ⟨b, off + k * 3, none⟩ = some (.int .i64 p) ∧ w'.cell? ⟨b, off + k * 3 + 1, none⟩ = some (.int .i64 q) ∧ w'.cell? ⟨b, off + k * 3 + 2, none⟩ = some (.string s) ∧ w'.cell? ⟨b', off' + k * 3, none⟩ = some (.int .i64 p') ∧ w'.cell? ⟨b', off' + k * 3 + 1, none⟩ = some (.int .i64 q') ∧ w'.cell? ⟨b', off' + k * 3 + 2, none⟩ = some (.string s')) (go_keep) (first | (go_at_call 79; refine (HS1.out _).mono ?_; rintro e w' ⟨rfl, hb⟩; replace c0 := (hb.cell (p := ⟨b, off + k * 3, none⟩) hblt).trans c0; replace c1 := (hb.cell (p := ⟨b, off + k * 3 + 1, none⟩) hblt).trans c1; replace c2 := (hb.cell (p := ⟨b, off + k * 3 + 2, none⟩) hblt).trans c2; replace d0 := (hb.cell (p := ⟨b', off' + k * 3, none⟩) hblt').trans d0; replace d1 := (hb.cell (p := ⟨b', off' + k * 3 + 1, none⟩) hblt').trans d1; replace d2 := (hb.cell (p := ⟨b', off' + k * 3 + 2, none⟩) hblt').trans d2; replace hB := more (W1 := _) (B := w.heap.size) (W0 := w) (by go_grown) (Nat.le_refl _) hb; clear hb))
          go_wp2_with fail
          go_roundw
          case rel => exact ⟨k + 1, by omega, by go_num, hB, HR2.out.trans (Bool.true_and _)⟩
          case measure => simp [intOf]; omega
      · have hv2 := Lib.hid (HR.out.trans (by rw [drop_none (by rw [HN.out]; omega), drop_none (by rw [HN'.out]; omega)]; rfl : eqVs (xs.drop k) (ys.drop k) = true))
        go_wp2_with fail
        go_ret
        exact ⟨ret_bool hv2.out.symm, hB⟩
  · have hv := Lib.hid (eqVs_len xs ys (by omega))
    have hd : ((n : Int) == (m : Int)) = false := by simp; omega
    have hd2 : ((n : Int) != (m : Int)) = true := by show (!((n : Int) == (m : Int))) = true; rw [hd]; rfl
    clear hlen hn hm hx hy
    go_enter Try.func63, Try.ntmps63
    go_wp2_with fail
    go_ret
    exact ⟨ret_bool hv.out.symm, by go_grown⟩
end Go.Proofs.Ytkofajjlkhamkaa
