/- Tre12, Tre13, Tre14, Tre15, Tre16 in one text. -/
import Derived.Test.YtcpfjlbicofkeaaDoorTre8
import Derived.Test.YtcpfjlbicofkeaaDoorTre7
import Derived.Maps.Own
import Derived.Maps.OwnSet
import Derived.Test.YtcpfjlbicofkeaaDoorTre11
namespace Go.Proofs.YtcpfjlbicofkeaaDoor
open Go.Joins Go.ChangeShapes Go.WideShapes Go.ChangeAt Go.RowKit Go.Deep
set_option linter.unusedVariables false
set_option linter.unusedSimpArgs false

def ascB : Int → List Pr → Bool
  | _, [] => true
  | m, x :: xs => (decide (m < x.nm) && decide (x.nm < 4)) && ascB x.nm xs
theorem runP_some : ∀ (xs : List Pr) (m : Int), 0 ≤ m → runP (some m) xs = (ascB m xs && xs.all fun x => x.v.ok)
  | [], m, _ => rfl
  | x :: xs, m, hm => by
    simp only [runP, ascB, List.all_cons, prB]
    by_cases h : m < x.nm
    · have ih := runP_some xs x.nm (by omega)
      rw [ih]
      by_cases h2 : x.nm < 4
      · rw [decide_eq_true (show 0 ≤ x.nm ∧ x.nm ≤ 3 by omega), decide_eq_true h, decide_eq_true h2]
        cases x.v.ok <;> simp
      · rw [decide_eq_false (show ¬ (0 ≤ x.nm ∧ x.nm ≤ 3) by omega), decide_eq_false h2]
        simp
    · rw [decide_eq_false h]; simp
theorem runP_is (xs : List Pr) : runP none xs = (ascB (-1) xs && xs.all fun x => x.v.ok) := by
  cases xs with
  | nil => rfl
  | cons x xs =>
    simp only [runP, ascB, List.all_cons, prB]
    by_cases h : 0 ≤ x.nm
    · rw [runP_some xs x.nm h]
      by_cases h2 : x.nm < 4
      · rw [decide_eq_true (show 0 ≤ x.nm ∧ x.nm ≤ 3 by omega), decide_eq_true (show -1 < x.nm by omega), decide_eq_true h2]
        cases x.v.ok <;> simp
      · rw [decide_eq_false (show ¬ (0 ≤ x.nm ∧ x.nm ≤ 3) by omega), decide_eq_false h2]
        simp
    · rw [decide_eq_false (show ¬ (0 ≤ x.nm ∧ x.nm ≤ 3) by omega), decide_eq_false (show ¬ -1 < x.nm by omega)]
      simp
set_option maxHeartbeats 1000000 in
theorem nameOf_any (A : Option Addr) (c n bx i : Nat) (xs : List Pr) (x : Pr) (w : World) (hx : PrL w A xs) (hn : xs.length = n) (hl : n ≤ maxLen) (hbx : w.cell? ⟨bx, 0, none⟩ = some (.slice A n c)) (hi : xs[i]? = some x) :
    Calls Tryd.prog 81 #[.int .i64 i, .pointer (some ⟨bx, 0, none⟩)] w fun e w' => e = .returned (.int .i64 x.nm) ∧ w = w' := by
  unfold maxLen at hl
  have hlt : i < n := by rw [← hn]; exact (List.getElem?_eq_some_iff.1 hi).1
  obtain ⟨b, off, rfl, hblt, hcell⟩ := PrL.at_ hx (by omega)
  obtain ⟨e0, _, _, _⟩ := hcell i x hi
  have hi1 : (0 : Int) ≤ (i : Int) := by omega
  have hi2 : (i : Int) < (n : Int) := by omega
  generalize x.nm = m at *
  clear hcell hx hn hi
  go_enter Tryd.func81, Tryd.ntmps81
  go_wp2_with fail
  go_ret
  exact ⟨rfl, rfl⟩
set_option maxHeartbeats 1000000 in
theorem ascend_any (A : Option Addr) (c n bx : Nat) (xs : List Pr) (w : World) (hx : PrL w A xs) (hn : xs.length = n) (hl : n ≤ maxLen) (hbx : w.cell? ⟨bx, 0, none⟩ = some (.slice A n c)) :
    Calls Tryd.prog 80 #[.int .i64 n, .int .i64 4, .func (.func 81) #[] #[.pointer (some ⟨bx, 0, none⟩)]] w fun e w' => e = .returned (.bool (ascB (-1) xs)) ∧ w = w' := by
  have HN := Lib.hid hn
  have HX := Lib.hid hx
  have HBX := Lib.hid hbx
  have HL := Lib.hid hl
  unfold maxLen at hl
  clear hx hn hbx
  go_enter Tryd.func80, Tryd.ntmps80
  go_wp2_with fail
  go_loop [7, 10] (fun l i => ∃ (k : Nat) (m : Int), k ≤ n ∧ i = .int .i64 k ∧ l = .int .i64 m ∧ Hid (ascB (-1) xs = ascB m (xs.drop k))) (fun _ i => n - (intOf i).toNat)
  case atStart => exact ⟨0, -1, by omega, rfl, rfl, Lib.hid rfl⟩
  case round =>
    obtain ⟨k, m, hk, rfl, rfl, HQ⟩ := hrel
    by_cases hlt : k < n
    · obtain ⟨x, hx⟩ := at_some (show k < xs.length by rw [HN.out]; exact hlt)
      have HQ2 := Lib.hid (HQ.out.trans (by rw [drop_cons hx]; simp only [ascB] : ascB m (xs.drop k) = ((decide (m < x.nm) && decide (x.nm < 4)) && ascB x.nm (xs.drop (k + 1)))))
      have K := Lib.hid (nameOf_any A c n bx k xs x w HX.out HN.out HL.out HBX.out hx)
      generalize x.nm = y at K HQ2
      clear hx
      by_cases h1 : y ≤ m
      · have hd : decide (y ≤ m) = true := decide_eq_true h1
        have HF := Lib.hid (show ascB (-1) xs = false by rw [HQ2.out, decide_eq_false (show ¬ m < y by omega)]; rfl)
        go_wp2_with (go_at_call 81; ((with_reducible refine (K.out).mono ?_); rintro e w' ⟨rfl, rfl⟩))
        go_ret
        exact ⟨ret_bool HF.out.symm, rfl⟩
      have hd : decide (y ≤ m) = false := decide_eq_false h1
      by_cases h2 : 4 ≤ y
      · have hd2 : decide (4 ≤ y) = true := decide_eq_true h2
        have HF := Lib.hid (show ascB (-1) xs = false by rw [HQ2.out, decide_eq_false (show ¬ y < 4 by omega)]; simp)
        go_wp2_with (go_at_call 81; ((with_reducible refine (K.out).mono ?_); rintro e w' ⟨rfl, rfl⟩))
        go_ret
        exact ⟨ret_bool HF.out.symm, rfl⟩
      have hd2 : decide (4 ≤ y) = false := decide_eq_false h2
      have HQ3 := Lib.hid (HQ2.out.trans (by rw [decide_eq_true (show m < y by omega), decide_eq_true (show y < 4 by omega)]; rfl : _ = ascB y (xs.drop (k + 1))))
      go_wp2_with (go_at_call 81; ((with_reducible refine (K.out).mono ?_); rintro e w' ⟨rfl, rfl⟩))
      go_round
      case rel => exact ⟨k + 1, y, by omega, by go_num, rfl, HQ3⟩
      case measure => simp [intOf]; omega
    · have HF := Lib.hid (show ascB (-1) xs = true by rw [HQ.out, drop_none (by rw [HN.out]; omega)]; rfl)
      go_wp2_with fail
      go_ret
      exact ⟨ret_bool HF.out.symm, rfl⟩
set_option maxHeartbeats 1000000 in
theorem ipropsOk_any (A : Option Addr) (c n : Nat) (xs : List Pr) (w : World) (hx : PrL w A xs) (hn : xs.length = n) (hl : n ≤ maxLen) :
    Calls Tryd.prog 73 #[.slice A n c] w fun e w' => e = .returned (.bool (runP none xs)) ∧ Below w.heap.size w w' := by
  have HB0 := Lib.hid (Below.alloc (Below.refl w.heap.size w) (Nat.le_refl _) (.cells #[.slice A n c] 30))
  have K := Lib.hid (ascend_any A c n w.heap.size xs _ (hx.below HB0.out) hn hl (by go_simp))
  have HV := Lib.hid (runP_is xs)
  have HN := Lib.hid hn
  have HX := Lib.hid hx
  unfold maxLen at hl
  clear hx hn
  obtain ⟨v, hv⟩ : ∃ v, ascB (-1) xs = v := ⟨_, rfl⟩
  rw [hv] at K HV
  clear hv
  cases v
  · have HF := Lib.hid (HV.out.trans (Bool.false_and _))
    go_enter Tryd.func73, Tryd.ntmps73
    go_wp2_with fail
    refine K.out.mono ?_
    rintro e w1 ⟨rfl, rfl⟩
    go_wp2_with fail
    go_ret
    exact ⟨ret_bool HF.out.symm, HB0.out⟩
  have HV2 := Lib.hid (HV.out.trans (Bool.true_and _))
  go_enter Tryd.func73, Tryd.ntmps73
  go_wp2_with fail
  refine K.out.mono ?_
  rintro e w1 ⟨rfl, rfl⟩
  go_wp2_with fail
  go_loopw [12] (fun i w2 => ∃ k : Nat, k ≤ n ∧ i = .int .i64 k ∧ Below w.heap.size w w2 ∧ Hid ((xs.all fun x => x.v.ok) = (xs.drop k).all fun x => x.v.ok)) (fun i _ => n - (intOf i).toNat)
  case atStart => exact ⟨0, by omega, rfl, HB0.out, Lib.hid rfl⟩
  case round =>
    obtain ⟨k, hk, rfl, hB, HQ⟩ := hrel
    have hzr := hB.size
    by_cases hlt : k < n
    · obtain ⟨b, off, rfl, hblt, hcell⟩ := PrL.at_ (HX.out.below hB) (by have := HN.out; omega)
      obtain ⟨x, hx⟩ := at_some (show k < xs.length by rw [HN.out]; exact hlt)
      have HQ2 := Lib.hid (HQ.out.trans (by rw [drop_cons hx]; rfl : ((xs.drop k).all fun x => x.v.ok) = (x.v.ok && (xs.drop (k + 1)).all fun x => x.v.ok)))
      obtain ⟨c0, c1, c2, c3⟩ := hcell k x hx
      clear hcell hx
      obtain ⟨nm, ⟨vk, vn, vs⟩⟩ := x
      dsimp only at c0 c1 c2 c3
      have hs := valid_impl vk vn vs
      obtain ⟨u, hu⟩ : ∃ u, validB vk vn vs = u := ⟨_, rfl⟩
      have HQ4 := Lib.hid (HQ2.out.trans (show _ = (u && (xs.drop (k + 1)).all fun x => x.v.ok) by rw [← hu]; rfl))
      rw [hu] at hs
      have HS1 := Lib.hid hs
      clear hs hu
      cases u
      · have HF := Lib.hid (HV2.out.trans (HQ4.out.trans (Bool.false_and _)))
        go_wp2_with (go_at_call 82; ((with_reducible refine (HS1.out _).mono ?_); rintro e w' ⟨rfl, hb⟩))
        go_ret
        exact ⟨ret_bool HF.out.symm, hB.trans (front (W0 := _) (by go_grown) (by simp <;> omega) hb |>.mono (by omega))⟩
      · have HQ3 := Lib.hid (HQ4.out.trans (Bool.true_and _))
        go_wp2_with (go_at_call 82; ((with_reducible refine (HS1.out _).mono ?_); rintro e w' ⟨rfl, hb⟩))
        go_roundw
        case rel => exact ⟨k + 1, by omega, by go_num, hB.trans (front (W0 := _) (by go_grown) (by simp <;> omega) hb |>.mono (by omega)), HQ3⟩
        case measure => simp [intOf]; omega
    · have HF := Lib.hid (HV2.out.trans (HQ.out.trans (by rw [drop_none (by rw [HN.out]; omega)]; rfl : _ = true)))
      go_wp2_with fail
      go_ret
      exact ⟨ret_bool HF.out.symm, hB⟩
end Go.Proofs.YtcpfjlbicofkeaaDoor

namespace Go.Proofs.YtcpfjlbicofkeaaDoor
open Go.Joins Go.ChangeShapes Go.WideShapes Go.ChangeAt Go.RowKit Go.Deep Go.Maps Go.Sort
set_option linter.unusedVariables false
set_option linter.unusedSimpArgs false

theorem lawI : Keyed Tryd.prog 3 := int_keyed Tryd.underlying3
/-- A value read as itself. -/
def RV (v : Value) : Option (DataW Value × List MemPlace) := some (.held v, [])
def seenB (seen : List Int) (y : Int) : Bool := decide (y ≠ -1) && seen.contains y
theorem apartK_step2 {ks : List Int} {i : Nat} {x : Int} (hx : ks[i]? = some x) : apartK (ks.take i) (ks.drop i) = (!seenB (ks.take i) x && apartK (ks.take (i + 1)) (ks.drop (i + 1))) := by
  rw [apartK_step hx]
  congr 1
  unfold seenB
  by_cases h : x = -1 <;> simp [h]
theorem seenB_snoc {ks : List Int} {i : Nat} {x : Int} (hx : ks[i]? = some x) (y : Int) : seenB (ks.take (i + 1)) y = if y = x then decide (x ≠ -1) else seenB (ks.take i) y := by
  obtain ⟨hi, e⟩ := List.getElem?_eq_some_iff.1 hx
  unfold seenB
  rw [List.take_succ_eq_append_getElem hi, e]
  by_cases h : y = x
  · subst h; simp
  · simp [h]
set_option maxRecDepth 100000 in
set_option maxHeartbeats 2000000 in
theorem idiffer_any (A : Option Addr) (c n : Nat) (xs : List Tr) (w : World) (hx : TrL w 0 A xs) (hn : xs.length = n) (hl : n ≤ 1000000) (hw : ∀ x ∈ xs, (Lit.int .i64 x.key).wf = true) :
    Calls Tryd.prog 74 #[.slice A n c] w fun e w' => e = .returned (.bool (apartK [] (keysOf xs))) ∧ Below w.heap.size w w' := by
  have HN := Lib.hid hn
  have HX := Lib.hid hx
  have HW := Lib.hid hw
  have HO := Lib.hid (World.ownsMap_made w Tryd.prog 3 RV)
  have HB0 := Lib.hid (Below.alloc (Below.refl w.heap.size w) (Nat.le_refl _) (.map #[] 0))
  clear hx hn hw
  have hmm := @run_makeMap Tryd.prog
  go_enter Tryd.func74, Tryd.ntmps74
  go_wp2_with fail
  clear hmm
  go_loopw [9] (fun i wr => ∃ (k : Nat) (D : DataW Value), k ≤ n ∧ i = .int .i64 k ∧ Hid (wr.ownsMap Tryd.prog 3 RV w.heap.size k D) ∧ Hid (Below w.heap.size w wr) ∧ Hid (∀ y, D.atKey (.int .i64 y) (.held (.bool false)) = .held (.bool (seenB ((keysOf xs).take k) y))) ∧ Hid (apartK [] (keysOf xs) = apartK ((keysOf xs).take k) ((keysOf xs).drop k))) (fun i _ => n - (intOf i).toNat)
  case atStart => exact ⟨0, .map [], by omega, rfl, HO, HB0, Lib.hid (fun y => by unfold seenB; simp; rfl), Lib.hid rfl⟩
  case round =>
    obtain ⟨k, D, hk, rfl, HO, HB, HD, HQ⟩ := hrel
    by_cases hlt : k < n
    · obtain ⟨x, hx⟩ := at_some (show k < xs.length by rw [HN.out]; exact hlt)
      have HXK := Lib.hid (keys_at hx)
      obtain ⟨b, off, B0, d0, B1, d1, rfl, hblt, _, e0, e1, e2, e3, e4, _, _, _⟩ := (HX.out.below HB.out).at_ hx
      have hwf := HW.out x (List.mem_of_getElem? hx)
      clear hx
      obtain ⟨xt, y, xs', xp, xq⟩ := x
      dsimp only [Tr.tag, Tr.key, Tr.text, Tr.ps, Tr.ks] at e0 e1 e2 e3 e4 HXK hwf
      generalize xp.length = np at e3
      generalize xq.length = nq at e4
      have hz := HB.out.size
      have hbl := HO.out.lt
      have hkey : keyOf Tryd.prog 3 (.int .i64 y) = some (.int .i64 y) := keyOf_int_mk Tryd.underlying3 hwf
      have HK := Lib.hid hkey
      have HOa := Lib.hid (show (wr.alloc (.cells #[.int .i64 xt, .int .i64 y, .string xs', .slice B0 np d0, .slice B1 nq d1] 33)).ownsMap Tryd.prog 3 RV w.heap.size k D from HO.out.alloc _)
      have HBa := Lib.hid (show Below w.heap.size w (wr.alloc (.cells #[.int .i64 xt, .int .i64 y, .string xs', .slice B0 np d0, .slice B1 nq d1] 33)) from HB.out.alloc hz _)
      have hz0 := Tryd.zeroValue4 (wr.alloc (.cells #[.int .i64 xt, .int .i64 y, .string xs', .slice B0 np d0, .slice B1 nq d1] 33))
      obtain ⟨v0, ps, hrun, hv⟩ := HOa.out.lookup lawI Tryd.underlying111 hz0 (R := RV) rfl hkey
      rw [HD.out y] at hv
      have HS := Lib.hid (apartK_step2 HXK.out)
      obtain ⟨u, hu⟩ : ∃ u, seenB ((keysOf xs).take k) y = u := ⟨_, rfl⟩
      rw [hu] at hv HS
      have hv0 : v0 = .bool u := by
        have h : (some (DataW.held v0, ([] : List MemPlace)) : Option (DataW Value × List MemPlace)) = some (.held (.bool u), ps) := hv
        injection h with h
        injection h with h h'
        injection h
      subst hv0
      clear hv hz0 hkey hu
      cases u
      · have HQ2 := Lib.hid (HQ.out.trans (HS.out.trans (Bool.true_and _)))
        obtain ⟨b1, hb1⟩ : ∃ b1, (y != -1) = b1 := ⟨_, rfl⟩
        have HB1 := Lib.hid hb1
        cases b1
        all_goals
          clear hwf
          go_wp2_with (at_mapUpdate; refine wpList_mapUpdate_own _ rfl _ _ _ 111 rfl 3 4 lawI Tryd.underlying111 RV w.heap.size k D rfl HOa.out (by unfold maxLen; omega) (.int .i64 y) (.bool _) (.int .i64 y) rfl rfl HK.out (.held (.bool _)) [] rfl ?_; intro w2 ho hgr; have HO2 := Lib.hid ho; have HB2 := Lib.hid (HBa.out.grown hgr HBa.out.size (fun j hj => by injection hj with hj; omega)); clear ho hgr)
          go_roundw
          case rel =>
            refine ⟨k + 1, _, by omega, by go_num, HO2, HB2, Lib.hid (fun t => ?_), HQ2⟩
            rw [seenB_snoc HXK.out]
            by_cases he : t = y
            · subst he
              rw [if_pos rfl, atKey_put_same HOa.out.isMap (lawI.key HK.out)]
              have h := HB1.out
              by_cases h2 : t = -1 <;> simp [h2] at h ⊢
            · rw [if_neg he, atKey_put_other (by intro e; injection e with e1 e2; first | exact he e2.symm | exact he e2 | exact he e1.symm)]
              exact HD.out t
          case measure => simp [intOf]; omega
      · have HF := Lib.hid (HQ.out.trans (HS.out.trans (Bool.false_and _)))
        go_wp2_with fail
        go_ret
        exact ⟨ret_bool HF.out.symm, HBa.out⟩
    · have HF := Lib.hid (HQ.out.trans (by rw [List.drop_of_length_le (by unfold keysOf; rw [List.length_map, HN.out]; omega)]; simp only [apartK] : _ = true))
      go_wp2_with fail
      go_ret
      exact ⟨ret_bool HF.out.symm, HB.out⟩
end Go.Proofs.YtcpfjlbicofkeaaDoor

namespace Go.Proofs.YtcpfjlbicofkeaaDoor
open Go.Joins Go.ChangeShapes Go.WideShapes Go.ChangeAt Go.RowKit Go.Deep
set_option linter.unusedVariables false
set_option linter.unusedSimpArgs false

/-- Where V holds the program tells shown texts; V stays. -/
structure ShOk (V : World → Prop) : Prop where
  stays : ∀ w w', V w → Below w.heap.size w w' → V w'
  shown : ∀ (s : ByteArray) (w : World), s.size ≤ 281474976710656 → V w → Calls Tryd.prog 71 #[.string s] w fun e w' => e = .returned (.bool (shownB s)) ∧ Below w.heap.size w w'
set_option maxHeartbeats 400000 in
theorem upTo_any (n m : Int) (w : World) : Calls Tryd.prog 36 #[.int .i64 n, .int .i64 m] w fun e w' => e = .returned (.bool (decide (0 ≤ n ∧ n ≤ m))) ∧ w = w' := by
  by_cases h1 : 0 ≤ n <;> by_cases h2 : n ≤ m
  all_goals
    go_enter Tryd.func36, Tryd.ntmps36
    go_wp2
    go_ret
    refine ⟨ret_bool ?_, rfl⟩
    simp [*]
set_option maxHeartbeats 400000 in
theorem keyOk_any (n : Int) (w : World) : Calls Tryd.prog 72 #[.int .i64 n] w fun e w' => e = .returned (.bool (decide (-1 ≤ n ∧ n ≤ 99))) ∧ w = w' := by
  have k := fun w => upTo_any n 99 w
  obtain ⟨b, hb⟩ : ∃ b, decide (0 ≤ n ∧ n ≤ 99) = b := ⟨_, rfl⟩
  rw [hb] at k
  have HBB := Lib.hid hb
  have K := Lib.hid k
  clear hb k
  by_cases h : n = -1
  · have hd : (n == -1) = true := by simpa using h
    have HV := Lib.hid (show decide (-1 ≤ n ∧ n ≤ 99) = true from decide_eq_true (by omega))
    clear h
    go_enter Tryd.func72, Tryd.ntmps72
    go_wp2_with (go_at_call 36; ((with_reducible refine (K.out _).mono ?_); rintro e w' ⟨rfl, rfl⟩))
    go_ret
    exact ⟨ret_bool HV.out.symm, rfl⟩
  · have hd : (n == -1) = false := by simpa using h
    have HV := Lib.hid (show decide (-1 ≤ n ∧ n ≤ 99) = b by rw [← HBB.out]; congr 1; apply propext; constructor <;> intro h2 <;> omega)
    clear h
    go_enter Tryd.func72, Tryd.ntmps72
    go_wp2_with (go_at_call 36; ((with_reducible refine (K.out _).mono ?_); rintro e w' ⟨rfl, rfl⟩))
    go_ret
    exact ⟨ret_bool HV.out.symm, rfl⟩
theorem partB_text {t : Tr} (h : t.tag = -1) : partB shownB t = (decide (t.key = -1) && (shownB t.text && (t.ps.isEmpty && t.ks.isEmpty))) := by
  unfold partB; rw [if_pos h]
theorem partB_elem {t : Tr} (h : ¬ t.tag = -1) : partB shownB t = (decide (0 ≤ t.tag ∧ t.tag ≤ 4) && (decide (-1 ≤ t.key ∧ t.key ≤ 99) && (t.text.toList.isEmpty && (runP none t.ps && apartK [] (keysOf t.ks))))) := by
  unfold partB; rw [if_neg h]
set_option maxRecDepth 100000 in
set_option maxHeartbeats 2000000 in
theorem ipartOk_any (V : World → Prop) (hV : ShOk V) (t : Tr) (hsm : SmT t) (hw : ∀ x ∈ t.ks, (Lit.int .i64 x.key).wf = true) (hl : t.ks.length ≤ 1000000) (h48 : t.text.size ≤ 281474976710656) : ∀ (A0 A1 : Option Addr) (c0 c1 : Nat) (w : World), V w → PrL w A0 t.ps → TrL w 0 A1 t.ks →
    Calls Tryd.prog 61 #[.agg #[.int .i64 t.tag, .int .i64 t.key, .string t.text, .slice A0 t.ps.length c0, .slice A1 t.ks.length c1]] w fun e w' => e = .returned (.bool (partB shownB t)) ∧ Below w.heap.size w w' := by
  intro A0 A1 c0 c1 w hv0 hp hk
  obtain ⟨s0, s1, s2, s3, s4⟩ := hsm.open_
  have HB0 := Lib.hid (Below.alloc (Below.refl w.heap.size w) (Nat.le_refl _) (.cells #[.int .i64 t.tag, .int .i64 t.key, .string t.text, .slice A0 t.ps.length c0, .slice A1 t.ks.length c1] 33))
  have HK := Lib.hid (hk.below HB0.out)
  have HP := Lib.hid (hp.below HB0.out)
  have HVV := Lib.hid (hV.stays _ _ hv0 HB0.out)
  have KS := Lib.hid (fun w h => hV.shown t.text w h48 h)
  have K3 := Lib.hid (fun w h => ipropsOk_any A0 c0 t.ps.length t.ps w h rfl s1)
  have K5 := Lib.hid (fun w h => idiffer_any A1 c1 t.ks.length t.ks w h rfl hl hw)
  have htx := @partB_text t
  have hel := @partB_elem t
  unfold maxLen at s1 s3
  clear hk hp s0 s2 s4 hsm hw hl hv0 h48
  obtain ⟨tag, key, text, ps, ks⟩ := t
  dsimp only [Tr.tag, Tr.key, Tr.text, Tr.ps, Tr.ks] at *
  obtain ⟨v, hv⟩ : ∃ v, partB shownB (.mk tag key text ps ks) = v := ⟨_, rfl⟩
  rw [hv] at htx hel ⊢
  clear hv
  obtain ⟨np, hnp⟩ : ∃ n, ps.length = n := ⟨_, rfl⟩
  obtain ⟨n, hn⟩ : ∃ n, ks.length = n := ⟨_, rfl⟩
  rw [hnp] at s1 HB0 HP HK HVV K3 ⊢
  rw [hn] at s3 HB0 HP HK HVV K5 ⊢
  have HN := Lib.hid hn
  have HNP := Lib.hid hnp
  clear hn hnp
  by_cases ht : tag = -1
  · have hv : v = (decide (key = -1) && (shownB text && (ps.isEmpty && ks.isEmpty))) := htx ht
    have hd : (tag == -1) = true := by rw [ht]; rfl
    clear htx hel ht
    by_cases hk : key = -1
    case neg =>
      have hd1 : (key == -1) = false := by simpa using hk
      have HF := Lib.hid (show v = false by rw [hv]; simp [hk])
      clear hk hv
      go_enter Tryd.func61, Tryd.ntmps61
      go_wp2_with fail
      go_ret
      exact ⟨ret_bool HF.out.symm, HB0.out⟩
    have hd1 : (key == -1) = true := by simpa using hk
    obtain ⟨u, hu⟩ : ∃ u, shownB text = u := ⟨_, rfl⟩
    rw [hu] at KS hv
    have HV := Lib.hid (show v = (u && (ps.isEmpty && ks.isEmpty)) by rw [hv, hk]; simp)
    clear hk hv hu
    have hpe : ps.isEmpty = decide (np = 0) := by rw [← HNP.out]; cases ps <;> simp
    have hke : ks.isEmpty = decide (n = 0) := by rw [← HN.out]; cases ks <;> simp
    rw [hpe, hke] at HV
    clear hpe hke
    cases u
    · have HF := Lib.hid (show v = false by rw [HV.out]; rfl)
      go_enter Tryd.func61, Tryd.ntmps61
      go_wp2_with fail
      refine (KS.out _ HVV.out).mono ?_
      rintro e w1 ⟨rfl, hb⟩
      have HB1 := Lib.hid (more HB0.out (Nat.le_refl _) hb)
      obtain ⟨hc, hf⟩ := bcell hb; simp at hc hf; have hz := hb.size; simp at hz
      clear hb
      go_wp2_with fail
      go_ret
      exact ⟨ret_bool HF.out.symm, HB1.out⟩
    by_cases hp0 : np = 0
    case neg =>
      have hd2 : ((np : Int) == 0) = false := by rw [beq_eq_false_iff_ne]; omega
      have HF := Lib.hid (show v = false by rw [HV.out, decide_eq_false hp0]; rfl)
      clear hp0
      go_enter Tryd.func61, Tryd.ntmps61
      go_wp2_with fail
      refine (KS.out _ HVV.out).mono ?_
      rintro e w1 ⟨rfl, hb⟩
      have HB1 := Lib.hid (more HB0.out (Nat.le_refl _) hb)
      obtain ⟨hc, hf⟩ := bcell hb; simp at hc hf; have hz := hb.size; simp at hz
      clear hb
      go_wp2_with fail
      go_ret
      exact ⟨ret_bool HF.out.symm, HB1.out⟩
    have hd2 : ((np : Int) == 0) = true := by rw [hp0]; rfl
    obtain ⟨r, hr⟩ : ∃ r, ((n : Int) == 0) = r := ⟨_, rfl⟩
    have HF := Lib.hid (show v = r by
      rw [HV.out, decide_eq_true hp0, ← hr, Bool.true_and, Bool.true_and]
      by_cases h : n = 0
      · rw [h]; rfl
      · rw [decide_eq_false h]; symm; rw [beq_eq_false_iff_ne]; omega)
    clear hp0
    go_enter Tryd.func61, Tryd.ntmps61
    go_wp2_with fail
    refine (KS.out _ HVV.out).mono ?_
    rintro e w1 ⟨rfl, hb⟩
    have HB1 := Lib.hid (more HB0.out (Nat.le_refl _) hb)
    obtain ⟨hc, hf⟩ := bcell hb; simp at hc hf; have hz := hb.size; simp at hz
    clear hb
    go_wp2_with fail
    go_ret
    exact ⟨ret_bool HF.out.symm, HB1.out⟩
  have hv : v = (decide (0 ≤ tag ∧ tag ≤ 4) && (decide (-1 ≤ key ∧ key ≤ 99) && (text.toList.isEmpty && (runP none ps && apartK [] (keysOf ks))))) := hel ht
  have hd : (tag == -1) = false := by simpa using ht
  have k1 := fun w => upTo_any tag 4 w
  have k2 := fun w => keyOk_any key w
  clear htx hel ht
  generalize decide (0 ≤ tag ∧ tag ≤ 4) = b1 at k1 hv
  generalize decide (-1 ≤ key ∧ key ≤ 99) = b2 at k2 hv
  have K1 := Lib.hid k1
  have K2 := Lib.hid k2
  clear k1 k2
  cases b1
  · have HF := Lib.hid (show v = false by rw [hv]; rfl)
    clear hv
    go_enter Tryd.func61, Tryd.ntmps61
    go_wp2_with (first | (go_at_call 36; ((with_reducible refine (K1.out _).mono ?_); rintro e w' ⟨rfl, rfl⟩)) | (go_at_call 72; ((with_reducible refine (K2.out _).mono ?_); rintro e w' ⟨rfl, rfl⟩)))
    go_ret
    exact ⟨ret_bool HF.out.symm, HB0.out⟩
  cases b2
  · have HF := Lib.hid (show v = false by rw [hv]; rfl)
    clear hv
    go_enter Tryd.func61, Tryd.ntmps61
    go_wp2_with (first | (go_at_call 36; ((with_reducible refine (K1.out _).mono ?_); rintro e w' ⟨rfl, rfl⟩)) | (go_at_call 72; ((with_reducible refine (K2.out _).mono ?_); rintro e w' ⟨rfl, rfl⟩)))
    go_ret
    exact ⟨ret_bool HF.out.symm, HB0.out⟩
  by_cases hte : text.toList = []
  case neg =>
    have hte2 : text.toList.isEmpty = false := by cases h : text.toList with | nil => exact absurd h hte | cons => rfl
    have HF := Lib.hid (show v = false by rw [hv, hte2]; rfl)
    have hd4 : (text.toList != []) = true := by simpa using hte
    have hd5 : (text.toList == []) = false := by simpa using hte
    clear hv hte
    go_enter Tryd.func61, Tryd.ntmps61
    go_wp2_with (first | (go_at_call 36; ((with_reducible refine (K1.out _).mono ?_); rintro e w' ⟨rfl, rfl⟩)) | (go_at_call 72; ((with_reducible refine (K2.out _).mono ?_); rintro e w' ⟨rfl, rfl⟩)))
    go_ret
    exact ⟨ret_bool HF.out.symm, HB0.out⟩
  have hte2 : text.toList.isEmpty = true := by rw [hte]; rfl
  have hd4 : (text.toList != []) = false := by rw [hte]; rfl
  have hd5 : (text.toList == []) = true := by rw [hte]; rfl
  rw [hte2] at hv
  clear hte hte2
  obtain ⟨r, hr⟩ : ∃ r, runP none ps = r := ⟨_, rfl⟩
  obtain ⟨a, ha⟩ : ∃ a, apartK [] (keysOf ks) = a := ⟨_, rfl⟩
  rw [hr, ha] at hv
  rw [hr] at K3
  rw [ha] at K5
  have HV := Lib.hid (show v = (r && a) by rw [hv]; simp)
  clear hv hr ha
  cases r
  · have HF := Lib.hid (show v = false by rw [HV.out]; rfl)
    go_enter Tryd.func61, Tryd.ntmps61
    go_wp2_with (first | (go_at_call 36; ((with_reducible refine (K1.out _).mono ?_); rintro e w' ⟨rfl, rfl⟩)) | (go_at_call 72; ((with_reducible refine (K2.out _).mono ?_); rintro e w' ⟨rfl, rfl⟩)))
    refine (K3.out _ HP.out).mono ?_
    rintro e w1 ⟨rfl, hb⟩
    have HB1 := Lib.hid (more HB0.out (Nat.le_refl _) hb)
    obtain ⟨hc, hf⟩ := bcell hb; simp at hc hf; have hz := hb.size; simp at hz
    clear hb
    go_wp2_with fail
    go_ret
    exact ⟨ret_bool HF.out.symm, HB1.out⟩
  have HF := Lib.hid (show v = a by rw [HV.out]; rfl)
  go_enter Tryd.func61, Tryd.ntmps61
  go_wp2_with (first | (go_at_call 36; ((with_reducible refine (K1.out _).mono ?_); rintro e w' ⟨rfl, rfl⟩)) | (go_at_call 72; ((with_reducible refine (K2.out _).mono ?_); rintro e w' ⟨rfl, rfl⟩)))
  refine (K3.out _ HP.out).mono ?_
  rintro e w1 ⟨rfl, hb⟩
  have HB1 := Lib.hid (more HB0.out (Nat.le_refl _) hb)
  have HK1 := Lib.hid (HK.out.below hb)
  obtain ⟨hc, hf⟩ := bcell hb; simp at hc hf; have hz := hb.size; simp at hz
  clear hb
  go_wp2_with fail
  refine (K5.out _ HK1.out).mono ?_
  rintro e w2 ⟨rfl, hb⟩
  have HB2 := Lib.hid (more HB1.out (Nat.le_refl _) hb)
  clear hb
  go_wp2_with fail
  go_ret
  exact ⟨ret_bool HF.out.symm, HB2.out⟩
end Go.Proofs.YtcpfjlbicofkeaaDoor

namespace Go.Proofs.YtcpfjlbicofkeaaDoor
open Go.Joins Go.ChangeShapes Go.WideShapes Go.ChangeAt Go.RowKit Go.Deep
set_option linter.unusedVariables false
set_option linter.unusedSimpArgs false

/-- The keys of the parts below are numbers of the machine, the texts not too long. -/
inductive KwT : Tr → Prop
  | mk {tag key : Int} {text : ByteArray} {ps : List Pr} {ks : List Tr} (h0 : ∀ x ∈ ks, (Lit.int .i64 x.key).wf = true) (h1 : ∀ x ∈ ks, KwT x) (h2 : text.size ≤ 281474976710656) : KwT (.mk tag key text ps ks)
theorem KwT.open_ {t : Tr} (h : KwT t) : (∀ x ∈ t.ks, (Lit.int .i64 x.key).wf = true) ∧ (∀ x ∈ t.ks, KwT x) ∧ t.text.size ≤ 281474976710656 := by
  cases h with | mk h0 h1 h2 => exact ⟨h0, h1, h2⟩
def cpV : Option Nat → Array Value
  | none => #[.int .i64 0, .bool false]
  | some n => #[.int .i64 n, .bool true]
theorem cpL_none {d room n : Nat} {x : Tr} {xs : List Tr} (h : cpT shownB (d + 1) (room - n) x = none) : cpL shownB d room n (x :: xs) = none := by simp only [cpL, h]
theorem cpL_some {d room n b : Nat} {x : Tr} {xs : List Tr} (h : cpT shownB (d + 1) (room - n) x = some b) : cpL shownB d room n (x :: xs) = cpL shownB d room (n + b) xs := by simp only [cpL, h]
theorem cpT_le {d room b : Nat} {t : Tr} (h : cpT shownB d room t = some b) : b ≤ room := by
  have h1 := cpT_is shownB t d room
  by_cases hc : deepT t + d ≤ 25 ∧ sizeT t ≤ room ∧ vpT shownB t = true
  · rw [h1.1 hc] at h; injection h with h; omega
  · rw [h1.2 hc] at h; cases h
def CpC (V : World → Prop) (t : Tr) : Prop := ∀ (d room : Nat) (A0 A1 : Option Addr) (c0 c1 : Nat) (w : World), V w → PrL w A0 t.ps → TrL w 0 A1 t.ks → d ≤ 30 → room ≤ 200 →
  Calls Tryd.prog 45 #[.agg #[.int .i64 t.tag, .int .i64 t.key, .string t.text, .slice A0 t.ps.length c0, .slice A1 t.ks.length c1], .int .i64 d, .int .i64 room] w fun e w' => e = .returned (.tuple (cpV (cpT shownB d room t))) ∧ Below w.heap.size w w'
theorem ret_cp {o : Option Nat} {vs : Array Value} (h : vs = cpV o) : Ending.returned (.tuple vs) = .returned (.tuple (cpV o)) := by rw [h]
set_option maxRecDepth 100000 in
set_option maxHeartbeats 2000000 in
theorem icount_any (V : World → Prop) (hV : ShOk V) (t : Tr) : SmT t → KwT t → CpC V t := by
  induction t using Tr.by_kids with
  | h t ih =>
  intro hsm hkw d room A0 A1 c0 c1 w hv hp hk hd hroom
  obtain ⟨s0, s1, s2, s3, s4⟩ := hsm.open_
  obtain ⟨q0, q1, q2⟩ := hkw.open_
  have HI := Lib.hid (fun x hx d room A0 A1 c0 c1 w hv hp hk hd hr => ih x hx (s4 x hx) (q1 x hx) d room A0 A1 c0 c1 w hv hp hk hd hr)
  have KP := Lib.hid (fun hl A0 A1 c0 c1 w hv hp hk => ipartOk_any V hV t hsm q0 hl q2 A0 A1 c0 c1 w hv hp hk)
  have HQ := Lib.hid (cpT_eq shownB d room t)
  obtain ⟨o, ho⟩ : ∃ o, cpT shownB d room t = o := ⟨_, rfl⟩
  rw [ho] at HQ ⊢
  have HB0 := Lib.hid (Below.alloc (Below.refl w.heap.size w) (Nat.le_refl _) (.cells #[.int .i64 t.tag, .int .i64 t.key, .string t.text, .slice A0 t.ps.length c0, .slice A1 t.ks.length c1] 33))
  have HK0 := Lib.hid hk
  have HK := Lib.hid (hk.below HB0.out)
  have HP := Lib.hid (hp.below HB0.out)
  have HVV := Lib.hid (hV.stays _ _ hv HB0.out)
  have HV0 := Lib.hid hv
  unfold maxLen at s1 s3
  clear hk hp ih s0 s2 s4 hsm hkw q0 q1 q2 hv ho
  obtain ⟨tag, key, text, ps, ks⟩ := t
  dsimp only [Tr.tag, Tr.key, Tr.text, Tr.ps, Tr.ks] at *
  obtain ⟨p, hpv⟩ : ∃ p, partB shownB (.mk tag key text ps ks) = p := ⟨_, rfl⟩
  rw [hpv] at HQ KP
  clear hpv
  have HQ := Lib.hid (show o = if 24 < d ∨ room ≤ ks.length then none else if p = false then none else cpL shownB d room 1 ks from HQ.out)
  obtain ⟨np, hnp⟩ : ∃ n, ps.length = n := ⟨_, rfl⟩
  obtain ⟨n, hn⟩ : ∃ n, ks.length = n := ⟨_, rfl⟩
  rw [hnp] at s1 HB0 HP HK HVV KP ⊢
  rw [hn] at s3 HB0 HP HK HVV KP HQ ⊢
  have HN := Lib.hid hn
  clear hn hnp
  by_cases h24 : 24 < d
  · have h24' : (24 : Int) < (d : Int) := by omega
    have HO := Lib.hid (HQ.out.trans (if_pos (.inl h24)))
    go_enter Tryd.func45, Tryd.ntmps45
    go_wp2_with fail
    go_ret2
    exact ⟨ret_cp (by rw [HO.out]; rfl), HB0.out⟩
  have h24' : ¬ (24 : Int) < (d : Int) := by omega
  by_cases hr : room ≤ n
  · have hr' : (room : Int) ≤ (n : Int) := by omega
    have HO := Lib.hid (HQ.out.trans (if_pos (.inr hr)))
    go_enter Tryd.func45, Tryd.ntmps45
    go_wp2_with fail
    go_ret2
    exact ⟨ret_cp (by rw [HO.out]; rfl), HB0.out⟩
  have hr' : ¬ (room : Int) ≤ (n : Int) := by omega
  have HQ1 := Lib.hid (HQ.out.trans (if_neg (by omega)))
  have KP1 := Lib.hid (fun A0 A1 c0 c1 w hv hp hk => KP.out (by omega) A0 A1 c0 c1 w hv hp hk)
  cases p
  · have HO := Lib.hid (HQ1.out.trans (if_pos rfl))
    go_enter Tryd.func45, Tryd.ntmps45
    go_wp2_with fail
    refine (KP1.out _ _ _ _ _ HVV.out HP.out HK.out).mono ?_
    rintro e w1 ⟨rfl, hb⟩
    have HB1 := Lib.hid (more HB0.out (Nat.le_refl _) hb)
    clear hb
    go_wp2_with fail
    go_ret2
    exact ⟨ret_cp (by rw [HO.out]; rfl), HB1.out⟩
  have HO := Lib.hid (HQ1.out.trans (if_neg (by simp)))
  go_enter Tryd.func45, Tryd.ntmps45
  go_wp2_with fail
  refine (KP1.out _ _ _ _ _ HVV.out HP.out HK.out).mono ?_
  rintro e w1 ⟨rfl, hb⟩
  have HB1 := Lib.hid (more HB0.out (Nat.le_refl _) hb)
  have hc4 := (hb.cell (p := ⟨w.heap.size, 4, none⟩) (by simp)).trans (by rw [World.cell?_alloc_new]; rfl : _ = some (.slice A1 n c1))
  have hz1 : w.heap.size < w1.heap.size := by have := hb.size; simp at this; omega
  clear hb
  go_wp2_with fail
  clear hc4
  go_loopw [8, 30] (fun m i wr => ∃ k q : Nat, k ≤ n ∧ i = .int .i64 k ∧ m = .int .i64 q ∧ q ≤ room ∧ Hid (o = cpL shownB d room q (ks.drop k)) ∧ Hid (Below w.heap.size w wr)) (fun _ i _ => n - (intOf i).toNat)
  case atStart => exact ⟨0, 1, by omega, rfl, rfl, by omega, HO, HB1⟩
  case round =>
    clear hz1 HB1
    obtain ⟨k, q, hk, rfl, rfl, hq, HL, HB⟩ := hrel
    have hzr := HB.out.size
    by_cases hlt : k < n
    · obtain ⟨x, hx⟩ := at_some (show k < ks.length by rw [HN.out]; exact hlt)
      have HDC := Lib.hid (drop_cons hx)
      obtain ⟨b, off, B0, d0, B1, d1, rfl, hblt, _, e0, e1, e2, e3, e4, hp, _, hks⟩ := (HK0.out.below HB.out).at_ hx
      have hba := Below.alloc (Below.refl wr.heap.size wr) (Nat.le_refl _) (.cells #[.int .i64 x.tag, .int .i64 x.key, .string x.text, .slice B0 x.ps.length d0, .slice B1 x.ks.length d1] 33)
      have HBA := Lib.hid (more HB.out (Nat.le_refl _) hba)
      have hs := HI.out x (List.mem_of_getElem? hx) (d + 1) (room - q) B0 B1 d0 d1 _ (hV.stays _ _ HV0.out HBA.out) (hp.below hba) (hks.below hba) (by omega) (by omega)
      rw [show ((room - q : Nat) : Int) = (room : Int) - q by omega, show ((d + 1 : Nat) : Int) = (d : Int) + 1 from rfl] at hs
      obtain ⟨u, hu⟩ : ∃ u, cpT shownB (d + 1) (room - q) x = u := ⟨_, rfl⟩
      have HU := Lib.hid hu
      rw [hu] at hs
      have HS1 := Lib.hid hs
      clear hs hx hp hks hba hu
      cases u with
      | none =>
        have HL2 := Lib.hid (HL.out.trans (by rw [HDC.out]; exact cpL_none HU.out : _ = none))
        clear HU HDC
        obtain ⟨xt, xk, xs, xp, xq⟩ := x
        dsimp only [Tr.tag, Tr.key, Tr.text, Tr.ps, Tr.ks] at e0 e1 e2 e3 e4 HS1 HBA
        go_wp2_with fail
        refine HS1.out.mono ?_
        rintro e w2 ⟨rfl, hb⟩
        have HB2 := Lib.hid (more HBA.out (Nat.le_refl _) hb)
        clear hb
        dsimp only [cpV]
        go_wp2_with fail
        go_ret2
        exact ⟨ret_cp (by rw [HL2.out]; rfl), HB2.out⟩
      | some u =>
        have hle := cpT_le HU.out
        have HL2 := Lib.hid (HL.out.trans (by rw [HDC.out]; exact cpL_some HU.out : _ = cpL shownB d room (q + u) (ks.drop (k + 1))))
        clear HU HDC
        obtain ⟨xt, xk, xs, xp, xq⟩ := x
        dsimp only [Tr.tag, Tr.key, Tr.text, Tr.ps, Tr.ks] at e0 e1 e2 e3 e4 HS1 HBA
        go_wp2_with fail
        refine HS1.out.mono ?_
        rintro e w2 ⟨rfl, hb⟩
        have HB2 := Lib.hid (more HBA.out (Nat.le_refl _) hb)
        clear hb
        dsimp only [cpV]
        go_wp2_with fail
        go_roundw
        case rel => exact ⟨k + 1, q + u, by omega, by go_num, by go_num, by omega, HL2, HB2⟩
        case measure => simp [intOf]; omega
    · have HF := Lib.hid (HL.out.trans (by rw [drop_none (by rw [HN.out]; omega)]; simp only [cpL] : _ = some q))
      go_wp2_with fail
      go_ret2
      exact ⟨ret_cp (by rw [HF.out]; rfl), HB.out⟩
end Go.Proofs.YtcpfjlbicofkeaaDoor

namespace Go.Proofs.YtcpfjlbicofkeaaDoor
open Go.Joins Go.ChangeShapes Go.WideShapes Go.ChangeAt Go.RowKit Go.Deep
set_option linter.unusedVariables false
set_option linter.unusedSimpArgs false

set_option maxHeartbeats 1000000 in
theorem iTreeOk_any (V : World → Prop) (hV : ShOk V) (t : Tr) (hsm : SmT t) (hkw : KwT t) : ∀ (A0 A1 : Option Addr) (c0 c1 : Nat) (w : World), V w → PrL w A0 t.ps → TrL w 0 A1 t.ks →
    Calls Tryd.prog 25 #[.agg #[.int .i64 t.tag, .int .i64 t.key, .string t.text, .slice A0 t.ps.length c0, .slice A1 t.ks.length c1]] w fun e w' => e = .returned (.bool (treeOkB t)) ∧ Below w.heap.size w w' := by
  have hc := icount_any V hV t hsm hkw 1 200
  obtain ⟨v, hv⟩ : ∃ v, treeOkB t = v := ⟨_, rfl⟩
  rw [hv]
  cases v
  · have hq : cpT shownB 1 200 t = none := treeB_no hv
    rw [hq] at hc
    clear hq hv hsm hkw
    intro A0 A1 c0 c1 w hv hp hk; obtain ⟨tag, key, text, ps, ks⟩ := t; dsimp only [Tr.tag, Tr.key, Tr.text, Tr.ps, Tr.ks] at *; generalize ps.length = np at *; generalize ks.length = n at *; have HB0 := Lib.hid (Below.alloc (Below.refl w.heap.size w) (Nat.le_refl _) (.cells #[.int .i64 tag, .int .i64 key, .string text, .slice A0 np c0, .slice A1 n c1] 33)); have HP := Lib.hid (hp.below HB0.out); have HK := Lib.hid (hk.below HB0.out); have HVV := Lib.hid (hV.stays _ _ hv HB0.out); clear hp hk hv
    have HC := Lib.hid (fun w h h2 h3 => hc A0 A1 c0 c1 w h h2 h3 (by omega) (by omega))
    clear hc
    go_enter Tryd.func25, Tryd.ntmps25
    go_wp2_with fail
    refine (HC.out _ HVV.out HP.out HK.out).mono ?_
    rintro e w1 ⟨rfl, hb⟩
    have HB1 := Lib.hid (more HB0.out (Nat.le_refl _) hb)
    clear hb
    dsimp only [cpV]
    go_wp2_with fail
    go_ret
    exact ⟨rfl, HB1.out⟩
  · obtain ⟨hq, _, _⟩ := treeB_yes (show treeB shownB t = true from hv)
    rw [hq] at hc
    clear hq hv hsm hkw
    generalize tsT 1 t = u at hc
    intro A0 A1 c0 c1 w hv hp hk; obtain ⟨tag, key, text, ps, ks⟩ := t; dsimp only [Tr.tag, Tr.key, Tr.text, Tr.ps, Tr.ks] at *; generalize ps.length = np at *; generalize ks.length = n at *; have HB0 := Lib.hid (Below.alloc (Below.refl w.heap.size w) (Nat.le_refl _) (.cells #[.int .i64 tag, .int .i64 key, .string text, .slice A0 np c0, .slice A1 n c1] 33)); have HP := Lib.hid (hp.below HB0.out); have HK := Lib.hid (hk.below HB0.out); have HVV := Lib.hid (hV.stays _ _ hv HB0.out); clear hp hk hv
    have HC := Lib.hid (fun w h h2 h3 => hc A0 A1 c0 c1 w h h2 h3 (by omega) (by omega))
    clear hc
    go_enter Tryd.func25, Tryd.ntmps25
    go_wp2_with fail
    refine (HC.out _ HVV.out HP.out HK.out).mono ?_
    rintro e w1 ⟨rfl, hb⟩
    have HB1 := Lib.hid (more HB0.out (Nat.le_refl _) hb)
    clear hb
    dsimp only [cpV]
    go_wp2_with fail
    go_ret
    exact ⟨rfl, HB1.out⟩
end Go.Proofs.YtcpfjlbicofkeaaDoor
