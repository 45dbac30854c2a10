/- Prop: rows of them, and what the laws do with these. -/
import Derived.Test.YtcpfjlbicofkeaaDoorPrp1
namespace Go.Proofs.YtcpfjlbicofkeaaDoor
open Go.Joins Go.ChangeShapes Go.WideShapes Go.ChangeAt Go.RowKit Go.Deep
set_option linter.unusedVariables false
set_option linter.unusedSimpArgs false

def szPrs : List Pr → Int
  | [] => 0
  | x :: xs => szPr x + szPrs xs
theorem szPrs_pos : ∀ xs : List Pr, 0 ≤ szPrs xs
  | [] => by decide
  | x :: xs => by have := szPrs_pos xs; have := szPr_pos x; simp only [szPrs]; omega
set_option maxHeartbeats 400000 in
theorem szPrs_any (A : Option Addr) (c n : Nat) (xs : List Pr) (left : Int) (w : World) (hx : PrL w A xs) (hn : xs.length = n) (hl : n ≤ maxLen) (hs : ∀ x ∈ xs, x.v.s.size ≤ maxLen) (h : left ≤ 1048576) (h0 : 0 ≤ left) :
    Calls Tryd.prog 18 #[.slice A n c, .int .i64 left] w fun e w' => e = .returned (.int .i64 (leftV left (n + szPrs xs))) ∧ Below w.heap.size w w' := by
  unfold maxLen at hl
  have HN := Lib.hid hn
  have HX := Lib.hid hx
  have HS := Lib.hid hs
  have hpos := szPrs_pos xs
  clear hx hs
  by_cases hlt0 : left < n
  · have HV := Lib.hid (leftV_neg (show left < n + szPrs xs by omega))
    clear hn hpos
    go_enter Tryd.func18, Tryd.ntmps18
    go_wp2_with fail
    go_ret
    exact ⟨ret_int HV.out.symm, by go_grown⟩
  clear hn hpos
  go_enter Tryd.func18, Tryd.ntmps18
  go_wp2_with fail
  go_loopw [1, 5] (fun l i w2 => ∃ (k : Nat) (z : Int), k ≤ n ∧ i = .int .i64 k ∧ l = .int .i64 z ∧ 0 ≤ z ∧ z ≤ 1048576 ∧ Below w.heap.size w w2 ∧ leftV left (n + szPrs xs) = leftV z (szPrs (xs.drop k))) (fun _ i _ => n - (intOf i).toNat)
  case atStart => exact ⟨0, left - n, by omega, rfl, rfl, by omega, by omega, by go_grown, by show leftV left (n + szPrs xs) = leftV (left - n) (szPrs xs); unfold leftV; split <;> split <;> omega⟩
  case round =>
    obtain ⟨k, z, hk, rfl, rfl, hz0, hz1, hB, hrun⟩ := hrel
    have HR := Lib.hid hrun
    clear hrun
    by_cases hlt : k < n
    · obtain ⟨b, off, rfl, hblt, hcell⟩ := PrL.at_ (HX.out.below hB) (by have := HN.out; omega)
      obtain ⟨x, hx⟩ := at_some (show k < xs.length by rw [HN.out]; exact hlt)
      have HR2 := Lib.hid (HR.out.trans (by rw [drop_cons hx]; rfl : leftV z (szPrs (xs.drop k)) = leftV z (szPr x + szPrs (xs.drop (k + 1)))))
      obtain ⟨c0, c1, c2, c3⟩ := hcell k x hx
      have hsz := HS.out x (List.mem_of_getElem? hx)
      have hp := szPrs_pos (xs.drop (k + 1))
      have hp0 := szPr_pos x
      have HSZ := Lib.hid (fun w => szPr_any x z w hz1 hz0 hsz)
      obtain ⟨u, hu⟩ : ∃ u, szPr x = u := ⟨_, rfl⟩
      rw [hu] at HSZ HR2 hp0
      clear hcell hx hsz hu
      by_cases hle : z < u
      · have HV := Lib.hid (HR2.out.trans (leftV_neg (by omega)))
        have HS1 := Lib.hid (fun w => by have h := HSZ.out w; rw [leftV_neg hle] at h; exact h)
        clear HR2 HR HSZ hp hp0 hle
        go_wp2_with (go_at_call 38; refine (HS1.out _).mono ?_; rintro e w' ⟨rfl, hb⟩; replace hB := more hB (Nat.le_refl _) hb; clear hb)
        go_ret
        exact ⟨ret_int HV.out.symm, hB⟩
      · have HV := Lib.hid (HR2.out.trans (by unfold leftV; split <;> split <;> omega : leftV z (u + szPrs (xs.drop (k + 1))) = leftV (z - u) (szPrs (xs.drop (k + 1)))))
        have HS1 := Lib.hid (fun w => by have h := HSZ.out w; rw [leftV_pos (show u ≤ z by omega)] at h; exact h)
        have hq : 0 ≤ z - u := by omega
        have hq2 : z - u ≤ 1048576 := by omega
        have HQ := Lib.hid hq
        clear HR2 HSZ hp
        go_wp2_with (go_at_call 38; refine (HS1.out _).mono ?_; rintro e w' ⟨rfl, hb⟩; replace hB := more hB (Nat.le_refl _) hb; clear hb)
        go_roundw
        case rel => exact ⟨k + 1, z - u, by omega, by go_num, rfl, HQ.out, by omega, hB, HV.out⟩
        case measure => simp [intOf]; omega
    · have HV := Lib.hid (HR.out.trans (by rw [drop_none (by rw [HN.out]; omega)]; show leftV z 0 = z; unfold leftV; split <;> omega : leftV z (szPrs (xs.drop k)) = z))
      go_wp2_with fail
      go_ret
      exact ⟨ret_int HV.out.symm, hB⟩

theorem take_Pr {L : List Value} {xs : List Pr} {k : Nat} {nm vk vn vs : _} (hL : k * 4 + 4 ≤ L.length) (h : L.take (k * 4) = (xs.take k).flatMap Pr.cells) (hx : xs[k]? = some ⟨nm, ⟨vk, vn, vs⟩⟩) :
    ((((L.set (k * 4) (.int .i64 nm)).set (k * 4 + 1) (.int .i64 vk)).set (k * 4 + 2) (.int .i64 vn)).set (k * 4 + 3) (.string vs)).take ((k + 1) * 4) = (xs.take (k + 1)).flatMap Pr.cells := by
  refine take_more Pr.cells_len h hx (by simp) hL (fun j hj => ?_) (fun d u hu => ?_)
  · repeat (rw [List.getElem?_set_ne (by omega)])
  · have hd : d < 4 := (List.getElem?_eq_some_iff.1 hu).1
    match d, hd with
    | 0, _ => simp [Pr.cells] at hu; subst hu; (repeat (rw [List.getElem?_set_ne (by omega)])); rw [show k * 4 + 0 = k * 4 from rfl, List.getElem?_set_self (by first | omega | (simp; omega))]
    | 1, _ => simp [Pr.cells] at hu; subst hu; (repeat (rw [List.getElem?_set_ne (by omega)])); rw [List.getElem?_set_self (by first | omega | (simp; omega))]
    | 2, _ => simp [Pr.cells] at hu; subst hu; (repeat (rw [List.getElem?_set_ne (by omega)])); rw [List.getElem?_set_self (by first | omega | (simp; omega))]
    | 3, _ => simp [Pr.cells] at hu; subst hu; (repeat (rw [List.getElem?_set_ne (by omega)])); rw [List.getElem?_set_self (by first | omega | (simp; omega))]
set_option maxHeartbeats 1000000 in
theorem toPrs_any (A : Option Addr) (c n : Nat) (xs : List Pr) (w : World) (hx : PrL w A xs) (hn : xs.length = n) (hl : n ≤ 1048576) :
    Calls Tryd.prog 23 #[.slice A n c] w fun e w' => e = .returned (.slice (some ⟨w.heap.size, 0, none⟩) n n) ∧
      w'.ownsRow w.heap.size 76 4 (.slice (some ⟨w.heap.size, 0, none⟩) n n) n (xs.flatMap Pr.cells) ∧ Below w.heap.size w w' := by
  have HN := Lib.hid hn
  have HX := Lib.hid hx
  clear hx hn
  obtain ⟨i0, hi, hz0, hz1, hz2⟩ := info_parts infoPr
  have HZ2 := Lib.hid hz2
  clear hz2
  go_enter Tryd.func23, Tryd.ntmps23
  go_wp2_with (at_make; refine wpList_make_full _ rfl _ _ 30 rfl w.heap.size 76 i0 (.agg #[.int .i64 0, .int .i64 0, .int .i64 0, .string ⟨#[]⟩]) 4 Tryd.underlying30 hi hz0 hz1 .i64 .i64 _ _ n rfl rfl rfl rfl (by rw [HZ2.out]; omega) (by unfold maxLen; omega) (Nat.le_refl _) ?_; rintro w1 hown hgrow)
  have hB1 : Below w.heap.size w w1 := grown_below hgrow
  have hg1 : w.heap.size < w1.heap.size := (hown.lt _ rfl).2
  have HO := Lib.hid hown
  clear hown hgrow hi hz0 hz1
  go_loopw [4] (fun i wr => ∃ (k : Nat) (L : List Value), k ≤ n ∧ i = .int .i64 k ∧ wr.ownsRow w.heap.size 76 4 (.slice (some ⟨w.heap.size, 0, none⟩) n n) n L ∧ L.take (k * 4) = (xs.take k).flatMap Pr.cells ∧ Below w.heap.size w wr) (fun i _ => n - (intOf i).toNat)
  case atStart => exact ⟨0, _, by omega, rfl, HO.out, by simp, hB1⟩
  case round =>
    obtain ⟨k, L, hk, rfl, hown, htk, hB⟩ := hrel
    have HT := Lib.hid htk
    have HO2 := Lib.hid hown
    have hgl : w.heap.size < wr.heap.size := (hown.lt _ rfl).2
    clear htk hown
    by_cases hlt : k < n
    · obtain ⟨b, off, rfl, hblt, hcell⟩ := PrL.at_ HX.out (by have := HN.out; omega)
      obtain ⟨x, hx⟩ := at_some (show k < xs.length by rw [HN.out]; exact hlt)
      obtain ⟨c0, c1, c2, c3⟩ := hcell k x hx
      replace c0 := (hB.cell (p := ⟨b, off + k * 4, none⟩) hblt).trans c0
      replace c1 := (hB.cell (p := ⟨b, off + k * 4 + 1, none⟩) hblt).trans c1
      replace c2 := (hB.cell (p := ⟨b, off + k * 4 + 2, none⟩) hblt).trans c2
      replace c3 := (hB.cell (p := ⟨b, off + k * 4 + 3, none⟩) hblt).trans c3
      have hs := toPr_any x
      have HXK := Lib.hid hx
      clear hcell hx
      obtain ⟨nm, ⟨vk, vn, vs⟩⟩ := x
      dsimp only at c0 c1 c2 c3 hs
      go_wp2_with fail
      refine (hs _).mono ?_
      rintro e w2 ⟨rfl, hb⟩
      have hO3 := ownsRow_below HO2.out hb
      have hLl : L.length = n * 4 := hO3.1
      obtain ⟨u0, d0⟩ : ∃ u, w2.cell? ⟨w.heap.size, k * 4, none⟩ = some u := ⟨_, (hO3.cellAt (k * 4) (by omega)).trans (List.getElem?_eq_getElem (show k * 4 < L.length by omega))⟩
      have f0 := hO3.frozenAt (k * 4)
      obtain ⟨u1, d1⟩ : ∃ u, w2.cell? ⟨w.heap.size, k * 4 + 1, none⟩ = some u := ⟨_, (hO3.cellAt (k * 4 + 1) (by omega)).trans (List.getElem?_eq_getElem (show k * 4 + 1 < L.length by omega))⟩
      have f1 := hO3.frozenAt (k * 4 + 1)
      obtain ⟨u2, d2⟩ : ∃ u, w2.cell? ⟨w.heap.size, k * 4 + 2, none⟩ = some u := ⟨_, (hO3.cellAt (k * 4 + 2) (by omega)).trans (List.getElem?_eq_getElem (show k * 4 + 2 < L.length by omega))⟩
      have f2 := hO3.frozenAt (k * 4 + 2)
      obtain ⟨u3, d3⟩ : ∃ u, w2.cell? ⟨w.heap.size, k * 4 + 3, none⟩ = some u := ⟨_, (hO3.cellAt (k * 4 + 3) (by omega)).trans (List.getElem?_eq_getElem (show k * 4 + 3 < L.length by omega))⟩
      have f3 := hO3.frozenAt (k * 4 + 3)
      have HO3 := Lib.hid hO3
      have HLl := Lib.hid hLl
      have HB2 := Lib.hid (more hB (Nat.le_refl _) hb)
      clear hO3 hLl hb hs c0 c1 c2 c3
      go_wp2_with fail
      obtain ⟨s1, g1⟩ := HO3.out.stored (k * 4) (.int .i64 nm)
      obtain ⟨s2, g2⟩ := s1.stored (k * 4 + 1) (.int .i64 vk)
      obtain ⟨s3, g3⟩ := s2.stored (k * 4 + 2) (.int .i64 vn)
      obtain ⟨s4, g4⟩ := s3.stored (k * 4 + 3) (.string vs)
      go_roundw
      case rel => exact ⟨k + 1, _, by omega, by go_num, s4, take_Pr (by have := HLl.out; omega) HT.out HXK.out, ((((HB2.out.setCell (Nat.le_refl _) _).setCell (Nat.le_refl _) _).setCell (Nat.le_refl _) _).setCell (Nat.le_refl _) _)⟩
      case measure => simp [intOf]; omega
    · obtain rfl : k = n := by omega
      have e : L = xs.flatMap Pr.cells := by
        have := HT.out
        rw [List.take_of_length_le (by rw [HO2.out.1]; exact Nat.le_refl _), List.take_of_length_le (by rw [HN.out]; exact Nat.le_refl _)] at this
        exact this
      have HO3 := HO2.out
      rw [e] at HO3
      have HO4 := Lib.hid HO3
      clear HO3 e
      go_wp2_with fail
      go_ret
      exact ⟨rfl, HO4.out, hB⟩

def eqPrs : List Pr → List Pr → Bool
  | [], [] => true
  | x :: xs, y :: ys => decide (x = y) && eqPrs xs ys
  | _, _ => false
theorem eqPrs_refl : ∀ xs : List Pr, eqPrs xs xs = true
  | [] => rfl
  | x :: xs => by simp [eqPrs, eqPrs_refl xs]
theorem eqPrs_iff : ∀ (xs ys : List Pr), eqPrs xs ys = decide (xs = ys)
  | [], [] => rfl
  | [], _ :: _ => by simp [eqPrs]
  | _ :: _, [] => by simp [eqPrs]
  | x :: xs, y :: ys => by simp only [eqPrs, eqPrs_iff xs ys, List.cons.injEq, Bool.decide_and]
theorem eqPrs_len (xs ys : List Pr) (h : xs.length ≠ ys.length) : eqPrs xs ys = false := by
  rw [eqPrs_iff, decide_eq_false]; rintro rfl; exact h rfl
set_option maxHeartbeats 2000000 in
theorem eqPrs_any (A A' : Option Addr) (c c' n m : Nat) (xs ys : List Pr) (w : World) (hx : PrL w A xs) (hy : PrL w A' ys) (hn : xs.length = n) (hm : ys.length = m) (hl : n ≤ maxLen) (hl' : m ≤ maxLen) :
    Calls Tryd.prog 28 #[.slice A n c, .slice A' m c'] w fun e w' => e = .returned (.bool (eqPrs xs ys)) ∧ Below w.heap.size w w' := by
  unfold maxLen at hl hl'
  have HN := Lib.hid hn
  have HN' := Lib.hid hm
  by_cases hlen : n = m
  · subst hlen
    have HX := Lib.hid hx
    have HY := Lib.hid hy
    clear hx hy hn hm
    go_enter Tryd.func28, Tryd.ntmps28
    go_wp2_with fail
    go_loopw [5] (fun i w2 => ∃ k : Nat, k ≤ n ∧ i = .int .i64 k ∧ Below w.heap.size w w2 ∧ eqPrs xs ys = eqPrs (xs.drop k) (ys.drop k)) (fun i _ => n - (intOf i).toNat)
    case atStart => exact ⟨0, by omega, rfl, by go_grown, rfl⟩
    case round =>
      obtain ⟨k, hk, rfl, hB, hrun⟩ := hrel
      have HR := Lib.hid hrun
      clear hrun
      by_cases hlt : k < n
      · obtain ⟨b, off, rfl, hblt, hcell⟩ := PrL.at_ (HX.out.below hB) (by have := HN.out; omega)
        obtain ⟨b', off', rfl, hblt', hcell'⟩ := PrL.at_ (HY.out.below hB) (by have := HN'.out; omega)
        obtain ⟨x, hx⟩ := at_some (show k < xs.length by rw [HN.out]; exact hlt)
        obtain ⟨y, hy⟩ := at_some (show k < ys.length by rw [HN'.out]; exact hlt)
        have HR2 := Lib.hid (HR.out.trans (by rw [drop_cons hx, drop_cons hy]; rfl : eqPrs (xs.drop k) (ys.drop k) = (decide (x = y) && eqPrs (xs.drop (k + 1)) (ys.drop (k + 1)))))
        obtain ⟨c0, c1, c2, c3⟩ := hcell k x hx
        obtain ⟨d0, d1, d2, d3⟩ := hcell' k y hy
        clear hcell hx hcell' hy
        have hs := eqPr_any x y
        obtain ⟨v, hv⟩ : ∃ v, decide (x = y) = v := ⟨_, rfl⟩
        rw [hv] at hs HR2
        clear hv
        obtain ⟨nm, ⟨vk, vn, vs⟩⟩ := x
        obtain ⟨nm', ⟨vk', vn', vs'⟩⟩ := y
        dsimp only at c0 c1 c2 c3 d0 d1 d2 d3 hs
        have hi1 : (0 : Int) ≤ (k : Int) := by omega
        have hi2 : (k : Int) < (n : Int) := by omega
        cases v
        · have HS1 := Lib.hid hs
          have hv2 := Lib.hid (HR2.out.trans (Bool.false_and _))
          clear hs HR2 HR
          go_wp2_with fail
          go_region_held3 (fun w' => w'.cell? ⟨b, off + k * 4, none⟩ = some (.int .i64 nm) ∧ w'.cell? ⟨b, off + k * 4 + 1, none⟩ = some (.int .i64 vk) ∧ w'.cell? ⟨b, off + k * 4 + 2, none⟩ = some (.int .i64 vn) ∧ w'.cell? ⟨b, off + k * 4 + 3, none⟩ = some (.string vs) ∧ w'.cell? ⟨b', off' + k * 4, none⟩ = some (.int .i64 nm') ∧ w'.cell? ⟨b', off' + k * 4 + 1, none⟩ = some (.int .i64 vk') ∧ w'.cell? ⟨b', off' + k * 4 + 2, none⟩ = some (.int .i64 vn') ∧ w'.cell? ⟨b', off' + k * 4 + 3, none⟩ = some (.string vs')) (go_keep) (first | (go_at_call 48; refine (HS1.out _).mono ?_; rintro e w' ⟨rfl, hb⟩; replace c0 := (hb.cell (p := ⟨b, off + k * 4, none⟩) hblt).trans c0; replace c1 := (hb.cell (p := ⟨b, off + k * 4 + 1, none⟩) hblt).trans c1; replace c2 := (hb.cell (p := ⟨b, off + k * 4 + 2, none⟩) hblt).trans c2; replace c3 := (hb.cell (p := ⟨b, off + k * 4 + 3, none⟩) hblt).trans c3; replace d0 := (hb.cell (p := ⟨b', off' + k * 4, none⟩) hblt').trans d0; replace d1 := (hb.cell (p := ⟨b', off' + k * 4 + 1, none⟩) hblt').trans d1; replace d2 := (hb.cell (p := ⟨b', off' + k * 4 + 2, none⟩) hblt').trans d2; replace d3 := (hb.cell (p := ⟨b', off' + k * 4 + 3, none⟩) hblt').trans d3; replace hB := more (W1 := _) (B := w.heap.size) (W0 := w) (by go_grown) (Nat.le_refl _) hb; clear hb))
          go_wp2_with fail
          go_ret
          exact ⟨ret_bool hv2.out.symm, hB⟩
        · have HS1 := Lib.hid hs
          clear hs HR
          go_wp2_with fail
          go_region_held3 (fun w' => w'.cell? ⟨b, off + k * 4, none⟩ = some (.int .i64 nm) ∧ w'.cell? ⟨b, off + k * 4 + 1, none⟩ = some (.int .i64 vk) ∧ w'.cell? ⟨b, off + k * 4 + 2, none⟩ = some (.int .i64 vn) ∧ w'.cell? ⟨b, off + k * 4 + 3, none⟩ = some (.string vs) ∧ w'.cell? ⟨b', off' + k * 4, none⟩ = some (.int .i64 nm') ∧ w'.cell? ⟨b', off' + k * 4 + 1, none⟩ = some (.int .i64 vk') ∧ w'.cell? ⟨b', off' + k * 4 + 2, none⟩ = some (.int .i64 vn') ∧ w'.cell? ⟨b', off' + k * 4 + 3, none⟩ = some (.string vs')) (go_keep) (first | (go_at_call 48; refine (HS1.out _).mono ?_; rintro e w' ⟨rfl, hb⟩; replace c0 := (hb.cell (p := ⟨b, off + k * 4, none⟩) hblt).trans c0; replace c1 := (hb.cell (p := ⟨b, off + k * 4 + 1, none⟩) hblt).trans c1; replace c2 := (hb.cell (p := ⟨b, off + k * 4 + 2, none⟩) hblt).trans c2; replace c3 := (hb.cell (p := ⟨b, off + k * 4 + 3, none⟩) hblt).trans c3; replace d0 := (hb.cell (p := ⟨b', off' + k * 4, none⟩) hblt').trans d0; replace d1 := (hb.cell (p := ⟨b', off' + k * 4 + 1, none⟩) hblt').trans d1; replace d2 := (hb.cell (p := ⟨b', off' + k * 4 + 2, none⟩) hblt').trans d2; replace d3 := (hb.cell (p := ⟨b', off' + k * 4 + 3, none⟩) hblt').trans d3; replace hB := more (W1 := _) (B := w.heap.size) (W0 := w) (by go_grown) (Nat.le_refl _) hb; clear hb))
          go_wp2_with fail
          go_roundw
          case rel => exact ⟨k + 1, by omega, by go_num, hB, HR2.out.trans (Bool.true_and _)⟩
          case measure => simp [intOf]; omega
      · have hv2 := Lib.hid (HR.out.trans (by rw [drop_none (by rw [HN.out]; omega), drop_none (by rw [HN'.out]; omega)]; rfl : eqPrs (xs.drop k) (ys.drop k) = true))
        go_wp2_with fail
        go_ret
        exact ⟨ret_bool hv2.out.symm, hB⟩
  · have hv := Lib.hid (eqPrs_len xs ys (by omega))
    have hd : ((n : Int) == (m : Int)) = false := by simp; omega
    have hd2 : ((n : Int) != (m : Int)) = true := by show (!((n : Int) == (m : Int))) = true; rw [hd]; rfl
    clear hlen hn hm hx hy
    go_enter Tryd.func28, Tryd.ntmps28
    go_wp2_with fail
    go_ret
    exact ⟨ret_bool hv.out.symm, by go_grown⟩
end Go.Proofs.YtcpfjlbicofkeaaDoor
