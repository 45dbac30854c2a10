/- Rule: rows of them, and what the laws do with these. -/
import Derived.Test.YtmfibedcloknlaaGreatDoorRul1
namespace Go.Proofs.YtmfibedcloknlaaGreatDoor
open Go.Joins Go.ChangeShapes Go.WideShapes Go.ChangeAt Go.RowKit Go.Deep
set_option linter.unusedVariables false
set_option linter.unusedSimpArgs false

def szRus : List Ru → Int
 | [] => 0
 | x :: xs => szRu x + szRus xs
theorem szRus_pos : ∀ xs : List Ru, 0 ≤ szRus xs
 | [] => by decide
 | x :: xs => by have := szRus_pos xs; have := szRu_pos x; simp only [szRus]; omega
set_option maxHeartbeats 400000 in
theorem szRus_any (A : Option Addr) (c n : Nat) (xs : List Ru) (left : Int) (w : World) (hx : RuL w A xs) (hn : xs.length = n) (hl : n ≤ maxLen) (hs : ∀ x ∈ xs, x.v.s.size ≤ maxLen) (h : left ≤ 1048576) (h0 : 0 ≤ left) :
  Calls Tryz.prog 20 #[.slice A n c, .int .i64 left] w fun e w' => e = .returned (.int .i64 (leftV left (n + szRus xs))) ∧ Below w.heap.size w w' := by
 unfold maxLen at hl
 have HN := Lib.hid hn
 have HX := Lib.hid hx
 have HS := Lib.hid hs
 have hpos := szRus_pos xs
 clear hx hs
 by_cases hlt0 : left < n
 ·have HV := Lib.hid (leftV_neg (show left < n + szRus xs by omega))
  clear hn hpos
  go_enter Tryz.func20, Tryz.ntmps20
  go_wp2_with fail
  go_ret
  exact ⟨ret_int HV.out.symm, by go_grown⟩
 clear hn hpos
 go_enter Tryz.func20, Tryz.ntmps20
 go_wp2_with fail
 go_loopw [1, 5] (fun l i w2 => ∃ (k : Nat) (z : Int), k ≤ n ∧ i = .int .i64 k ∧ l = .int .i64 z ∧ 0 ≤ z ∧ z ≤ 1048576 ∧ Below w.heap.size w w2 ∧ leftV left (n + szRus xs) = leftV z (szRus (xs.drop k))) (fun _ i _ => n - (intOf i).toNat)
 case atStart => exact ⟨0, left - n, by omega, rfl, rfl, by omega, by omega, by go_grown, by show leftV left (n + szRus xs) = leftV (left - n) (szRus xs); unfold leftV; split <;> split <;> omega⟩
 case round =>
  obtain ⟨k, z, hk, rfl, rfl, hz0, hz1, hB, hrun⟩ := hrel
  have HR := Lib.hid hrun
  clear hrun
  by_cases hlt : k < n
  ·obtain ⟨b, off, rfl, hblt, hcell⟩ := RuL.at_ (HX.out.below hB) (by have := HN.out; omega)
   obtain ⟨x, hx⟩ := at_some (show k < xs.length by rw [HN.out]; exact hlt)
   have HR2 := Lib.hid (HR.out.trans (by rw [drop_cons hx]; rfl : leftV z (szRus (xs.drop k)) = leftV z (szRu x + szRus (xs.drop (k + 1)))))
   obtain ⟨c0, c1, c2, c3, c4, c5, c6, c7⟩ := hcell k x hx
   have hsz := HS.out x (List.mem_of_getElem? hx)
   have hp := szRus_pos (xs.drop (k + 1))
   have hp0 := szRu_pos x
   have HSZ := Lib.hid (fun w => szRu_any x z w hz1 hz0 hsz)
   obtain ⟨u, hu⟩ : ∃ u, szRu x = u := ⟨_, rfl⟩
   rw [hu] at HSZ HR2 hp0
   clear hcell hx hsz hu
   by_cases hle : z < u
   ·have HV := Lib.hid (HR2.out.trans (leftV_neg (by omega)))
    have HS1 := Lib.hid (fun w => by have h := HSZ.out w; rw [leftV_neg hle] at h; exact h)
    clear HR2 HR HSZ hp hp0 hle
    go_wp2_with (go_at_call 30; refine (HS1.out _).mono ?_; rintro e w' ⟨rfl, hb⟩; replace hB := more hB (Nat.le_refl _) hb; clear hb)
    go_ret
    exact ⟨ret_int HV.out.symm, hB⟩
   ·have HV := Lib.hid (HR2.out.trans (by unfold leftV; split <;> split <;> omega : leftV z (u + szRus (xs.drop (k + 1))) = leftV (z - u) (szRus (xs.drop (k + 1)))))
    have HS1 := Lib.hid (fun w => by have h := HSZ.out w; rw [leftV_pos (show u ≤ z by omega)] at h; exact h)
    have hq : 0 ≤ z - u := by omega
    have hq2 : z - u ≤ 1048576 := by omega
    have HQ := Lib.hid hq
    clear HR2 HSZ hp
    go_wp2_with (go_at_call 30; refine (HS1.out _).mono ?_; rintro e w' ⟨rfl, hb⟩; replace hB := more hB (Nat.le_refl _) hb; clear hb)
    go_roundw
    case rel => exact ⟨k + 1, z - u, by omega, by go_num, rfl, HQ.out, by omega, hB, HV.out⟩
    case measure => simp [intOf]; omega
  ·have HV := Lib.hid (HR.out.trans (by rw [drop_none (by rw [HN.out]; omega)]; show leftV z 0 = z; unfold leftV; split <;> omega : leftV z (szRus (xs.drop k)) = z))
   go_wp2_with fail
   go_ret
   exact ⟨ret_int HV.out.symm, hB⟩

theorem take_Ru {L : List Value} {xs : List Ru} {k : Nat} {t a nm vk vn vs l g : _} (hL : k * 8 + 8 ≤ L.length) (h : L.take (k * 8) = (xs.take k).flatMap Ru.cells) (hx : xs[k]? = some ⟨t, a, nm, ⟨vk, vn, vs⟩, l, g⟩) :
  ((((((((L.set (k * 8) (.int .i64 t)).set (k * 8 + 1) (.int .i64 a)).set (k * 8 + 2) (.int .i64 nm)).set (k * 8 + 3) (.int .i64 vk)).set (k * 8 + 4) (.int .i64 vn)).set (k * 8 + 5) (.string vs)).set (k * 8 + 6) (.int .i64 l)).set (k * 8 + 7) (.int .i64 g)).take ((k + 1) * 8) = (xs.take (k + 1)).flatMap Ru.cells := by
 refine take_more Ru.cells_len h hx (by simp) hL (fun j hj => ?_) (fun d u hu => ?_)
 ·repeat (rw [List.getElem?_set_ne (by omega)])
 ·have hd : d < 8 := (List.getElem?_eq_some_iff.1 hu).1
  match d, hd with
  | 0, _ => simp [Ru.cells] at hu; subst hu; (repeat (rw [List.getElem?_set_ne (by omega)])); rw [show k * 8 + 0 = k * 8 from rfl, List.getElem?_set_self (by first | omega | (simp; omega))]
  | 1, _ => simp [Ru.cells] at hu; subst hu; (repeat (rw [List.getElem?_set_ne (by omega)])); rw [List.getElem?_set_self (by first | omega | (simp; omega))]
  | 2, _ => simp [Ru.cells] at hu; subst hu; (repeat (rw [List.getElem?_set_ne (by omega)])); rw [List.getElem?_set_self (by first | omega | (simp; omega))]
  | 3, _ => simp [Ru.cells] at hu; subst hu; (repeat (rw [List.getElem?_set_ne (by omega)])); rw [List.getElem?_set_self (by first | omega | (simp; omega))]
  | 4, _ => simp [Ru.cells] at hu; subst hu; (repeat (rw [List.getElem?_set_ne (by omega)])); rw [List.getElem?_set_self (by first | omega | (simp; omega))]
  | 5, _ => simp [Ru.cells] at hu; subst hu; (repeat (rw [List.getElem?_set_ne (by omega)])); rw [List.getElem?_set_self (by first | omega | (simp; omega))]
  | 6, _ => simp [Ru.cells] at hu; subst hu; (repeat (rw [List.getElem?_set_ne (by omega)])); rw [List.getElem?_set_self (by first | omega | (simp; omega))]
  | 7, _ => simp [Ru.cells] at hu; subst hu; (repeat (rw [List.getElem?_set_ne (by omega)])); rw [List.getElem?_set_self (by first | omega | (simp; omega))]
set_option maxHeartbeats 1000000 in
theorem toRus_any (A : Option Addr) (c n : Nat) (xs : List Ru) (w : World) (hx : RuL w A xs) (hn : xs.length = n) (hl : n ≤ 1048576) :
  Calls Tryz.prog 22 #[.slice A n c] w fun e w' => e = .returned (.slice (some ⟨w.heap.size, 0, none⟩) n n) ∧
   w'.ownsRow w.heap.size 42 8 (.slice (some ⟨w.heap.size, 0, none⟩) n n) n (xs.flatMap Ru.cells) ∧ Below w.heap.size w w' := by
 have HN := Lib.hid hn
 have HX := Lib.hid hx
 clear hx hn
 obtain ⟨i0, hi, hz0, hz1, hz2⟩ := info_parts infoRu
 have HZ2 := Lib.hid hz2
 clear hz2
 go_enter Tryz.func22, Tryz.ntmps22
 go_wp2_with (at_make; refine wpList_make_full _ rfl _ _ 27 rfl w.heap.size 42 i0 (.agg #[.int .i64 0, .int .i64 0, .int .i64 0, .int .i64 0, .int .i64 0, .string ⟨#[]⟩, .int .i64 0, .int .i64 0]) 8 Tryz.underlying27 hi hz0 hz1 .i64 .i64 _ _ n rfl rfl rfl rfl (by rw [HZ2.out]; omega) (by unfold maxLen; omega) (Nat.le_refl _) ?_; rintro w1 hown hgrow)
 have hB1 : Below w.heap.size w w1 := grown_below hgrow
 have hg1 : w.heap.size < w1.heap.size := (hown.lt _ rfl).2
 have HO := Lib.hid hown
 clear hown hgrow hi hz0 hz1
 go_loopw [4] (fun i wr => ∃ (k : Nat) (L : List Value), k ≤ n ∧ i = .int .i64 k ∧ wr.ownsRow w.heap.size 42 8 (.slice (some ⟨w.heap.size, 0, none⟩) n n) n L ∧ L.take (k * 8) = (xs.take k).flatMap Ru.cells ∧ Below w.heap.size w wr) (fun i _ => n - (intOf i).toNat)
 case atStart => exact ⟨0, _, by omega, rfl, HO.out, by simp, hB1⟩
 case round =>
  obtain ⟨k, L, hk, rfl, hown, htk, hB⟩ := hrel
  have HT := Lib.hid htk
  have HO2 := Lib.hid hown
  have hgl : w.heap.size < wr.heap.size := (hown.lt _ rfl).2
  clear htk hown
  by_cases hlt : k < n
  ·obtain ⟨b, off, rfl, hblt, hcell⟩ := RuL.at_ HX.out (by have := HN.out; omega)
   obtain ⟨x, hx⟩ := at_some (show k < xs.length by rw [HN.out]; exact hlt)
   obtain ⟨c0, c1, c2, c3, c4, c5, c6, c7⟩ := hcell k x hx
   replace c0 := (hB.cell (p := ⟨b, off + k * 8, none⟩) hblt).trans c0
   replace c1 := (hB.cell (p := ⟨b, off + k * 8 + 1, none⟩) hblt).trans c1
   replace c2 := (hB.cell (p := ⟨b, off + k * 8 + 2, none⟩) hblt).trans c2
   replace c3 := (hB.cell (p := ⟨b, off + k * 8 + 3, none⟩) hblt).trans c3
   replace c4 := (hB.cell (p := ⟨b, off + k * 8 + 4, none⟩) hblt).trans c4
   replace c5 := (hB.cell (p := ⟨b, off + k * 8 + 5, none⟩) hblt).trans c5
   replace c6 := (hB.cell (p := ⟨b, off + k * 8 + 6, none⟩) hblt).trans c6
   replace c7 := (hB.cell (p := ⟨b, off + k * 8 + 7, none⟩) hblt).trans c7
   have hs := toRu_any x
   have HXK := Lib.hid hx
   clear hcell hx
   obtain ⟨t, a, nm, ⟨vk, vn, vs⟩, l, g⟩ := x
   dsimp only at c0 c1 c2 c3 c4 c5 c6 c7 hs
   go_wp2_with fail
   refine (hs _).mono ?_
   rintro e w2 ⟨rfl, hb⟩
   have hO3 := ownsRow_below HO2.out hb
   have hLl : L.length = n * 8 := hO3.1
   obtain ⟨u0, d0⟩ : ∃ u, w2.cell? ⟨w.heap.size, k * 8, none⟩ = some u := ⟨_, (hO3.cellAt (k * 8) (by omega)).trans (List.getElem?_eq_getElem (show k * 8 < L.length by omega))⟩
   have f0 := hO3.frozenAt (k * 8)
   obtain ⟨u1, d1⟩ : ∃ u, w2.cell? ⟨w.heap.size, k * 8 + 1, none⟩ = some u := ⟨_, (hO3.cellAt (k * 8 + 1) (by omega)).trans (List.getElem?_eq_getElem (show k * 8 + 1 < L.length by omega))⟩
   have f1 := hO3.frozenAt (k * 8 + 1)
   obtain ⟨u2, d2⟩ : ∃ u, w2.cell? ⟨w.heap.size, k * 8 + 2, none⟩ = some u := ⟨_, (hO3.cellAt (k * 8 + 2) (by omega)).trans (List.getElem?_eq_getElem (show k * 8 + 2 < L.length by omega))⟩
   have f2 := hO3.frozenAt (k * 8 + 2)
   obtain ⟨u3, d3⟩ : ∃ u, w2.cell? ⟨w.heap.size, k * 8 + 3, none⟩ = some u := ⟨_, (hO3.cellAt (k * 8 + 3) (by omega)).trans (List.getElem?_eq_getElem (show k * 8 + 3 < L.length by omega))⟩
   have f3 := hO3.frozenAt (k * 8 + 3)
   obtain ⟨u4, d4⟩ : ∃ u, w2.cell? ⟨w.heap.size, k * 8 + 4, none⟩ = some u := ⟨_, (hO3.cellAt (k * 8 + 4) (by omega)).trans (List.getElem?_eq_getElem (show k * 8 + 4 < L.length by omega))⟩
   have f4 := hO3.frozenAt (k * 8 + 4)
   obtain ⟨u5, d5⟩ : ∃ u, w2.cell? ⟨w.heap.size, k * 8 + 5, none⟩ = some u := ⟨_, (hO3.cellAt (k * 8 + 5) (by omega)).trans (List.getElem?_eq_getElem (show k * 8 + 5 < L.length by omega))⟩
   have f5 := hO3.frozenAt (k * 8 + 5)
   obtain ⟨u6, d6⟩ : ∃ u, w2.cell? ⟨w.heap.size, k * 8 + 6, none⟩ = some u := ⟨_, (hO3.cellAt (k * 8 + 6) (by omega)).trans (List.getElem?_eq_getElem (show k * 8 + 6 < L.length by omega))⟩
   have f6 := hO3.frozenAt (k * 8 + 6)
   obtain ⟨u7, d7⟩ : ∃ u, w2.cell? ⟨w.heap.size, k * 8 + 7, none⟩ = some u := ⟨_, (hO3.cellAt (k * 8 + 7) (by omega)).trans (List.getElem?_eq_getElem (show k * 8 + 7 < L.length by omega))⟩
   have f7 := hO3.frozenAt (k * 8 + 7)
   have HO3 := Lib.hid hO3
   have HLl := Lib.hid hLl
   have HB2 := Lib.hid (more hB (Nat.le_refl _) hb)
   clear hO3 hLl hb hs c0 c1 c2 c3 c4 c5 c6 c7
   go_wp2_with fail
   obtain ⟨s1, g1⟩ := HO3.out.stored (k * 8) (.int .i64 t)
   obtain ⟨s2, g2⟩ := s1.stored (k * 8 + 1) (.int .i64 a)
   obtain ⟨s3, g3⟩ := s2.stored (k * 8 + 2) (.int .i64 nm)
   obtain ⟨s4, g4⟩ := s3.stored (k * 8 + 3) (.int .i64 vk)
   obtain ⟨s5, g5⟩ := s4.stored (k * 8 + 4) (.int .i64 vn)
   obtain ⟨s6, g6⟩ := s5.stored (k * 8 + 5) (.string vs)
   obtain ⟨s7, g7⟩ := s6.stored (k * 8 + 6) (.int .i64 l)
   obtain ⟨s8, g8⟩ := s7.stored (k * 8 + 7) (.int .i64 g)
   go_roundw
   case rel => exact ⟨k + 1, _, by omega, by go_num, s8, take_Ru (by have := HLl.out; omega) HT.out HXK.out, ((((((((HB2.out.setCell (Nat.le_refl _) _).setCell (Nat.le_refl _) _).setCell (Nat.le_refl _) _).setCell (Nat.le_refl _) _).setCell (Nat.le_refl _) _).setCell (Nat.le_refl _) _).setCell (Nat.le_refl _) _).setCell (Nat.le_refl _) _)⟩
   case measure => simp [intOf]; omega
  ·obtain rfl : k = n := by omega
   have e : L = xs.flatMap Ru.cells := by
    have := HT.out
    rw [List.take_of_length_le (by rw [HO2.out.1]; exact Nat.le_refl _), List.take_of_length_le (by rw [HN.out]; exact Nat.le_refl _)] at this
    exact this
   have HO3 := HO2.out
   rw [e] at HO3
   have HO4 := Lib.hid HO3
   clear HO3 e
   go_wp2_with fail
   go_ret
   exact ⟨rfl, HO4.out, hB⟩

def eqRus : List Ru → List Ru → Bool
 | [], [] => true
 | x :: xs, y :: ys => decide (x = y) && eqRus xs ys
 | _, _ => false
theorem eqRus_refl : ∀ xs : List Ru, eqRus xs xs = true
 | [] => rfl
 | x :: xs => by simp [eqRus, eqRus_refl xs]
theorem eqRus_iff : ∀ (xs ys : List Ru), eqRus xs ys = decide (xs = ys)
 | [], [] => rfl
 | [], _ :: _ => by simp [eqRus]
 | _ :: _, [] => by simp [eqRus]
 | x :: xs, y :: ys => by simp only [eqRus, eqRus_iff xs ys, List.cons.injEq, Bool.decide_and]
theorem eqRus_len (xs ys : List Ru) (h : xs.length ≠ ys.length) : eqRus xs ys = false := by
 rw [eqRus_iff, decide_eq_false]; rintro rfl; exact h rfl
set_option maxHeartbeats 2000000 in
theorem eqRus_any (A A' : Option Addr) (c c' n m : Nat) (xs ys : List Ru) (w : World) (hx : RuL w A xs) (hy : RuL w A' ys) (hn : xs.length = n) (hm : ys.length = m) (hl : n ≤ maxLen) (hl' : m ≤ maxLen) :
  Calls Tryz.prog 25 #[.slice A n c, .slice A' m c'] w fun e w' => e = .returned (.bool (eqRus xs ys)) ∧ Below w.heap.size w w' := by
 unfold maxLen at hl hl'
 have HN := Lib.hid hn
 have HN' := Lib.hid hm
 by_cases hlen : n = m
 ·subst hlen
  have HX := Lib.hid hx
  have HY := Lib.hid hy
  clear hx hy hn hm
  go_enter Tryz.func25, Tryz.ntmps25
  go_wp2_with fail
  go_loopw [5] (fun i w2 => ∃ k : Nat, k ≤ n ∧ i = .int .i64 k ∧ Below w.heap.size w w2 ∧ eqRus xs ys = eqRus (xs.drop k) (ys.drop k)) (fun i _ => n - (intOf i).toNat)
  case atStart => exact ⟨0, by omega, rfl, by go_grown, rfl⟩
  case round =>
   obtain ⟨k, hk, rfl, hB, hrun⟩ := hrel
   have HR := Lib.hid hrun
   clear hrun
   by_cases hlt : k < n
   ·obtain ⟨b, off, rfl, hblt, hcell⟩ := RuL.at_ (HX.out.below hB) (by have := HN.out; omega)
    obtain ⟨b', off', rfl, hblt', hcell'⟩ := RuL.at_ (HY.out.below hB) (by have := HN'.out; omega)
    obtain ⟨x, hx⟩ := at_some (show k < xs.length by rw [HN.out]; exact hlt)
    obtain ⟨y, hy⟩ := at_some (show k < ys.length by rw [HN'.out]; exact hlt)
    have HR2 := Lib.hid (HR.out.trans (by rw [drop_cons hx, drop_cons hy]; rfl : eqRus (xs.drop k) (ys.drop k) = (decide (x = y) && eqRus (xs.drop (k + 1)) (ys.drop (k + 1)))))
    obtain ⟨c0, c1, c2, c3, c4, c5, c6, c7⟩ := hcell k x hx
    obtain ⟨d0, d1, d2, d3, d4, d5, d6, d7⟩ := hcell' k y hy
    clear hcell hx hcell' hy
    have hs := eqRu_any x y
    obtain ⟨v, hv⟩ : ∃ v, decide (x = y) = v := ⟨_, rfl⟩
    rw [hv] at hs HR2
    clear hv
    obtain ⟨t, a, nm, ⟨vk, vn, vs⟩, l, g⟩ := x
    obtain ⟨t', a', nm', ⟨vk', vn', vs'⟩, l', g'⟩ := y
    dsimp only at c0 c1 c2 c3 c4 c5 c6 c7 d0 d1 d2 d3 d4 d5 d6 d7 hs
    have hi1 : (0 : Int) ≤ (k : Int) := by omega
    have hi2 : (k : Int) < (n : Int) := by omega
    cases v
    ·have HS1 := Lib.hid hs
     have hv2 := Lib.hid (HR2.out.trans (Bool.false_and _))
     clear hs HR2 HR
     go_wp2_with fail
     go_region_held3 (fun w' => w'.cell? ⟨b, off + k * 8, none⟩ = some (.int .i64 t) ∧ w'.cell? ⟨b, off + k * 8 + 1, none⟩ = some (.int .i64 a) ∧ w'.cell? ⟨b, off + k * 8 + 2, none⟩ = some (.int .i64 nm) ∧ w'.cell? ⟨b, off + k * 8 + 3, none⟩ = some (.int .i64 vk) ∧ w'.cell? ⟨b, off + k * 8 + 4, none⟩ = some (.int .i64 vn) ∧ w'.cell? ⟨b, off + k * 8 + 5, none⟩ = some (.string vs) ∧ w'.cell? ⟨b, off + k * 8 + 6, none⟩ = some (.int .i64 l) ∧ w'.cell? ⟨b, off + k * 8 + 7, none⟩ = some (.int .i64 g) ∧ w'.cell? ⟨b', off' + k * 8, none⟩ = some (.int .i64 t') ∧ w'.cell? ⟨b', off' + k * 8 + 1, none⟩ = some (.int .i64 a') ∧ w'.cell? ⟨b', off' + k * 8 + 2, none⟩ = some (.int .i64 nm') ∧ w'.cell? ⟨b', off' + k * 8 + 3, none⟩ = some (.int .i64 vk') ∧ w'.cell? ⟨b', off' + k * 8 + 4, none⟩ = some (.int .i64 vn') ∧ w'.cell? ⟨b', off' + k * 8 + 5, none⟩ = some (.string vs') ∧ w'.cell? ⟨b', off' + k * 8 + 6, none⟩ = some (.int .i64 l') ∧ w'.cell? ⟨b', off' + k * 8 + 7, none⟩ = some (.int .i64 g')) (go_keep) (first | (go_at_call 56; refine (HS1.out _).mono ?_; rintro e w' ⟨rfl, hb⟩; replace c0 := (hb.cell (p := ⟨b, off + k * 8, none⟩) hblt).trans c0; replace c1 := (hb.cell (p := ⟨b, off + k * 8 + 1, none⟩) hblt).trans c1; replace c2 := (hb.cell (p := ⟨b, off + k * 8 + 2, none⟩) hblt).trans c2; replace c3 := (hb.cell (p := ⟨b, off + k * 8 + 3, none⟩) hblt).trans c3; replace c4 := (hb.cell (p := ⟨b, off + k * 8 + 4, none⟩) hblt).trans c4; replace c5 := (hb.cell (p := ⟨b, off + k * 8 + 5, none⟩) hblt).trans c5; replace c6 := (hb.cell (p := ⟨b, off + k * 8 + 6, none⟩) hblt).trans c6; replace c7 := (hb.cell (p := ⟨b, off + k * 8 + 7, none⟩) hblt).trans c7; replace d0 := (hb.cell (p := ⟨b', off' + k * 8, none⟩) hblt').trans d0; replace d1 := (hb.cell (p := ⟨b', off' + k * 8 + 1, none⟩) hblt').trans d1; replace d2 := (hb.cell (p := ⟨b', off' + k * 8 + 2, none⟩) hblt').trans d2; replace d3 := (hb.cell (p := ⟨b', off' + k * 8 + 3, none⟩) hblt').trans d3; replace d4 := (hb.cell (p := ⟨b', off' + k * 8 + 4, none⟩) hblt').trans d4; replace d5 := (hb.cell (p := ⟨b', off' + k * 8 + 5, none⟩) hblt').trans d5; replace d6 := (hb.cell (p := ⟨b', off' + k * 8 + 6, none⟩) hblt').trans d6; replace d7 := (hb.cell (p := ⟨b', off' + k * 8 + 7, none⟩) hblt').trans d7; replace hB := more (W1 := _) (B := w.heap.size) (W0 := w) (by go_grown) (Nat.le_refl _) hb; clear hb))
     go_wp2_with fail
     go_ret
     exact ⟨ret_bool hv2.out.symm, hB⟩
    ·have HS1 := Lib.hid hs
     clear hs HR
     go_wp2_with fail
     go_region_held3 (fun w' => w'.cell? ⟨b, off + k * 8, none⟩ = some (.int .i64 t) ∧ w'.cell? ⟨b, off + k * 8 + 1, none⟩ = some (.int .i64 a) ∧ w'.cell? ⟨b, off + k * 8 + 2, none⟩ = some (.int .i64 nm) ∧ w'.cell? ⟨b, off + k * 8 + 3, none⟩ = some (.int .i64 vk) ∧ w'.cell? ⟨b, off + k * 8 + 4, none⟩ = some (.int .i64 vn) ∧ w'.cell? ⟨b, off + k * 8 + 5, none⟩ = some (.string vs) ∧ w'.cell? ⟨b, off + k * 8 + 6, none⟩ = some (.int .i64 l) ∧ w'.cell? ⟨b, off + k * 8 + 7, none⟩ = some (.int .i64 g) ∧ w'.cell? ⟨b', off' + k * 8, none⟩ = some (.int .i64 t') ∧ w'.cell? ⟨b', off' + k * 8 + 1, none⟩ = some (.int .i64 a') ∧ w'.cell? ⟨b', off' + k * 8 + 2, none⟩ = some (.int .i64 nm') ∧ w'.cell? ⟨b', off' + k * 8 + 3, none⟩ = some (.int .i64 vk') ∧ w'.cell? ⟨b', off' + k * 8 + 4, none⟩ = some (.int .i64 vn') ∧ w'.cell? ⟨b', off' + k * 8 + 5, none⟩ = some (.string vs') ∧ w'.cell? ⟨b', off' + k * 8 + 6, none⟩ = some (.int .i64 l') ∧ w'.cell? ⟨b', off' + k * 8 + 7, none⟩ = some (.int .i64 g')) (go_keep) (first | (go_at_call 56; refine (HS1.out _).mono ?_; rintro e w' ⟨rfl, hb⟩; replace c0 := (hb.cell (p := ⟨b, off + k * 8, none⟩) hblt).trans c0; replace c1 := (hb.cell (p := ⟨b, off + k * 8 + 1, none⟩) hblt).trans c1; replace c2 := (hb.cell (p := ⟨b, off + k * 8 + 2, none⟩) hblt).trans c2; replace c3 := (hb.cell (p := ⟨b, off + k * 8 + 3, none⟩) hblt).trans c3; replace c4 := (hb.cell (p := ⟨b, off + k * 8 + 4, none⟩) hblt).trans c4; replace c5 := (hb.cell (p := ⟨b, off + k * 8 + 5, none⟩) hblt).trans c5; replace c6 := (hb.cell (p := ⟨b, off + k * 8 + 6, none⟩) hblt).trans c6; replace c7 := (hb.cell (p := ⟨b, off + k * 8 + 7, none⟩) hblt).trans c7; replace d0 := (hb.cell (p := ⟨b', off' + k * 8, none⟩) hblt').trans d0; replace d1 := (hb.cell (p := ⟨b', off' + k * 8 + 1, none⟩) hblt').trans d1; replace d2 := (hb.cell (p := ⟨b', off' + k * 8 + 2, none⟩) hblt').trans d2; replace d3 := (hb.cell (p := ⟨b', off' + k * 8 + 3, none⟩) hblt').trans d3; replace d4 := (hb.cell (p := ⟨b', off' + k * 8 + 4, none⟩) hblt').trans d4; replace d5 := (hb.cell (p := ⟨b', off' + k * 8 + 5, none⟩) hblt').trans d5; replace d6 := (hb.cell (p := ⟨b', off' + k * 8 + 6, none⟩) hblt').trans d6; replace d7 := (hb.cell (p := ⟨b', off' + k * 8 + 7, none⟩) hblt').trans d7; replace hB := more (W1 := _) (B := w.heap.size) (W0 := w) (by go_grown) (Nat.le_refl _) hb; clear hb))
     go_wp2_with fail
     go_roundw
     case rel => exact ⟨k + 1, by omega, by go_num, hB, HR2.out.trans (Bool.true_and _)⟩
     case measure => simp [intOf]; omega
   ·have hv2 := Lib.hid (HR.out.trans (by rw [drop_none (by rw [HN.out]; omega), drop_none (by rw [HN'.out]; omega)]; rfl : eqRus (xs.drop k) (ys.drop k) = true))
    go_wp2_with fail
    go_ret
    exact ⟨ret_bool hv2.out.symm, hB⟩
 ·have hv := Lib.hid (eqRus_len xs ys (by omega))
  have hd : ((n : Int) == (m : Int)) = false := by simp; omega
  have hd2 : ((n : Int) != (m : Int)) = true := by show (!((n : Int) == (m : Int))) = true; rw [hd]; rfl
  clear hlen hn hm hx hy
  go_enter Tryz.func25, Tryz.ntmps25
  go_wp2_with fail
  go_ret
  exact ⟨ret_bool hv.out.symm, by go_grown⟩
end Go.Proofs.YtmfibedcloknlaaGreatDoor
