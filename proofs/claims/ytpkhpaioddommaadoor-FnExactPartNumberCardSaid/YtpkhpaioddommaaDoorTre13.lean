/- Trees: whether no two of them have the same key, by the program. -/
import Derived.Test.YtpkhpaioddommaaDoorTre7
import Derived.Maps.Own
import Derived.Maps.OwnSet
namespace Go.Proofs.YtpkhpaioddommaaDoor
open Go.Joins Go.ChangeShapes Go.WideShapes Go.ChangeAt Go.RowKit Go.Deep Go.Maps Go.Sort
set_option linter.unusedVariables false
set_option linter.unusedSimpArgs false

theorem lawI : Keyed Tryd.prog 3 := int_keyed Tryd.underlying3
/-- A value read as itself. -/
def RV (v : Value) : Option (DataW Value × List MemPlace) := some (.held v, [])
def seenB (seen : List Int) (y : Int) : Bool := decide (y ≠ -1) && seen.contains y
theorem apartK_step2 {ks : List Int} {i : Nat} {x : Int} (hx : ks[i]? = some x) : apartK (ks.take i) (ks.drop i) = (!seenB (ks.take i) x && apartK (ks.take (i + 1)) (ks.drop (i + 1))) := by
  rw [apartK_step hx]
  congr 1
  unfold seenB
  by_cases h : x = -1 <;> simp [h]
theorem seenB_snoc {ks : List Int} {i : Nat} {x : Int} (hx : ks[i]? = some x) (y : Int) : seenB (ks.take (i + 1)) y = if y = x then decide (x ≠ -1) else seenB (ks.take i) y := by
  obtain ⟨hi, e⟩ := List.getElem?_eq_some_iff.1 hx
  unfold seenB
  rw [List.take_succ_eq_append_getElem hi, e]
  by_cases h : y = x
  · subst h; simp
  · simp [h]
set_option maxRecDepth 100000 in
set_option maxHeartbeats 2000000 in
theorem idiffer_any (A : Option Addr) (c n : Nat) (xs : List Tr) (w : World) (hx : TrL w 0 A xs) (hn : xs.length = n) (hl : n ≤ 1000000) (hw : ∀ x ∈ xs, (Lit.int .i64 x.key).wf = true) :
    Calls Tryd.prog 102 #[.slice A n c] w fun e w' => e = .returned (.bool (apartK [] (keysOf xs))) ∧ Below w.heap.size w w' := by
  have HN := Lib.hid hn
  have HX := Lib.hid hx
  have HW := Lib.hid hw
  have HO := Lib.hid (World.ownsMap_made w Tryd.prog 3 RV)
  have HB0 := Lib.hid (Below.alloc (Below.refl w.heap.size w) (Nat.le_refl _) (.map #[] 0))
  clear hx hn hw
  have hmm := @run_makeMap Tryd.prog
  go_enter Tryd.func102, Tryd.ntmps102
  go_wp2_with fail
  clear hmm
  go_loopw [9] (fun i wr => ∃ (k : Nat) (D : DataW Value), k ≤ n ∧ i = .int .i64 k ∧ Hid (wr.ownsMap Tryd.prog 3 RV w.heap.size k D) ∧ Hid (Below w.heap.size w wr) ∧ Hid (∀ y, D.atKey (.int .i64 y) (.held (.bool false)) = .held (.bool (seenB ((keysOf xs).take k) y))) ∧ Hid (apartK [] (keysOf xs) = apartK ((keysOf xs).take k) ((keysOf xs).drop k))) (fun i _ => n - (intOf i).toNat)
  case atStart => exact ⟨0, .map [], by omega, rfl, HO, HB0, Lib.hid (fun y => by unfold seenB; simp; rfl), Lib.hid rfl⟩
  case round =>
    obtain ⟨k, D, hk, rfl, HO, HB, HD, HQ⟩ := hrel
    by_cases hlt : k < n
    · obtain ⟨x, hx⟩ := at_some (show k < xs.length by rw [HN.out]; exact hlt)
      have HXK := Lib.hid (keys_at hx)
      obtain ⟨b, off, B0, d0, B1, d1, rfl, hblt, _, e0, e1, e2, e3, e4, _, _, _⟩ := (HX.out.below HB.out).at_ hx
      have hwf := HW.out x (List.mem_of_getElem? hx)
      clear hx
      obtain ⟨xt, y, xs', xp, xq⟩ := x
      dsimp only [Tr.tag, Tr.key, Tr.text, Tr.ps, Tr.ks] at e0 e1 e2 e3 e4 HXK hwf
      generalize xp.length = np at e3
      generalize xq.length = nq at e4
      have hz := HB.out.size
      have hbl := HO.out.lt
      have hkey : keyOf Tryd.prog 3 (.int .i64 y) = some (.int .i64 y) := keyOf_int_mk Tryd.underlying3 hwf
      have HK := Lib.hid hkey
      have HOa := Lib.hid (show (wr.alloc (.cells #[.int .i64 xt, .int .i64 y, .string xs', .slice B0 np d0, .slice B1 nq d1] 26)).ownsMap Tryd.prog 3 RV w.heap.size k D from HO.out.alloc _)
      have HBa := Lib.hid (show Below w.heap.size w (wr.alloc (.cells #[.int .i64 xt, .int .i64 y, .string xs', .slice B0 np d0, .slice B1 nq d1] 26)) from HB.out.alloc hz _)
      have hz0 := Tryd.zeroValue4 (wr.alloc (.cells #[.int .i64 xt, .int .i64 y, .string xs', .slice B0 np d0, .slice B1 nq d1] 26))
      obtain ⟨v0, ps, hrun, hv⟩ := HOa.out.lookup lawI Tryd.underlying129 hz0 (R := RV) rfl hkey
      rw [HD.out y] at hv
      have HS := Lib.hid (apartK_step2 HXK.out)
      obtain ⟨u, hu⟩ : ∃ u, seenB ((keysOf xs).take k) y = u := ⟨_, rfl⟩
      rw [hu] at hv HS
      have hv0 : v0 = .bool u := by
        have h : (some (DataW.held v0, ([] : List MemPlace)) : Option (DataW Value × List MemPlace)) = some (.held (.bool u), ps) := hv
        injection h with h
        injection h with h h'
        injection h
      subst hv0
      clear hv hz0 hkey hu
      cases u
      · have HQ2 := Lib.hid (HQ.out.trans (HS.out.trans (Bool.true_and _)))
        obtain ⟨b1, hb1⟩ : ∃ b1, (y != -1) = b1 := ⟨_, rfl⟩
        have HB1 := Lib.hid hb1
        cases b1
        all_goals
          clear hwf
          go_wp2_with (at_mapUpdate; refine wpList_mapUpdate_own _ rfl _ _ _ 129 rfl 3 4 lawI Tryd.underlying129 RV w.heap.size k D rfl HOa.out (by unfold maxLen; omega) (.int .i64 y) (.bool _) (.int .i64 y) rfl rfl HK.out (.held (.bool _)) [] rfl ?_; intro w2 ho hgr; have HO2 := Lib.hid ho; have HB2 := Lib.hid (HBa.out.grown hgr HBa.out.size (fun j hj => by injection hj with hj; omega)); clear ho hgr)
          go_roundw
          case rel =>
            refine ⟨k + 1, _, by omega, by go_num, HO2, HB2, Lib.hid (fun t => ?_), HQ2⟩
            rw [seenB_snoc HXK.out]
            by_cases he : t = y
            · subst he
              rw [if_pos rfl, atKey_put_same HOa.out.isMap (lawI.key HK.out)]
              have h := HB1.out
              by_cases h2 : t = -1 <;> simp [h2] at h ⊢
            · rw [if_neg he, atKey_put_other (by intro e; injection e with e1 e2; first | exact he e2.symm | exact he e2 | exact he e1.symm)]
              exact HD.out t
          case measure => simp [intOf]; omega
      · have HF := Lib.hid (HQ.out.trans (HS.out.trans (Bool.false_and _)))
        go_wp2_with fail
        go_ret
        exact ⟨ret_bool HF.out.symm, HBa.out⟩
    · have HF := Lib.hid (HQ.out.trans (by rw [List.drop_of_length_le (by unfold keysOf; rw [List.length_map, HN.out]; omega)]; simp only [apartK] : _ = true))
      go_wp2_with fail
      go_ret
      exact ⟨ret_bool HF.out.symm, HB.out⟩
end Go.Proofs.YtpkhpaioddommaaDoor
