/- Stores: whether they are valid, in the program's own text. -/
import Derived.Test.YtkofajjlkhamkaaSto6
import Derived.Test.YtkofajjlkhamkaaPlcN
namespace Go.Proofs.Ytkofajjlkhamkaa
open Go.Joins Go.ChangeShapes Go.WideShapes Go.ChangeAt Go.RowKit Go.Deep
set_option linter.unusedVariables false
set_option linter.unusedSimpArgs false

theorem orderV_cmp {xs ys : List Sl} (hx : placeB xs = true) (hy : placeB ys = true) : orderV xs ys = cmpP xs ys := by unfold orderV; rw [hx, hy]; rfl
set_option maxHeartbeats 4000000 in
theorem istore_any (A : Option Addr) (c n : Nat) (xs : List Ce) (w : World) (hx : CeL w A xs) (hn : xs.length = n) (hl : n ≤ maxLen) :
    Calls Try.prog 36 #[.slice A n c] w fun e w' => e = .returned (.bool (storeB xs)) ∧ Below w.heap.size w w' := by
  unfold maxLen at hl
  have HN := Lib.hid hn
  have HX := Lib.hid hx
  clear hx
  by_cases h200 : n ≤ 200
  · have hd : decide (200 < (n : Int)) = false := by simp; omega
    have hv := Lib.hid (show storeB xs = runS none xs by unfold storeB; rw [decide_eq_true (by omega)]; rfl)
    clear hn
    go_enter Try.func36, Try.ntmps36
    go_wp2_with fail
    go_loopw [3, 4, 10] (fun _ _ i w2 => ∃ k : Nat, k ≤ n ∧ i = .int .i64 k ∧ Below w.heap.size w w2 ∧ runS none xs = runS (prevP xs k) (xs.drop k) ∧ Hid (∀ q, prevP xs k = some q → placeB q = true)) (fun _ _ i _ => n - (intOf i).toNat)
    case atStart => exact ⟨0, by omega, rfl, by go_grown, rfl, Lib.hid (fun q hq => by rw [prevP_zero] at hq; cases hq)⟩
    case round =>
      obtain ⟨k, hk, rfl, hB, hrun, HPQ⟩ := hrel
      have HR := Lib.hid hrun
      have HB := Lib.hid hB
      clear hrun
      by_cases hlt : k < n
      · obtain ⟨b, off, rfl, hblt, hcell⟩ := (HX.out.below hB) (by have := HN.out; omega)
        obtain ⟨x, hx⟩ := at_some (show k < xs.length by rw [HN.out]; exact hlt)
        have HR2 := Lib.hid (hv.out.trans (HR.out.trans (by rw [drop_cons hx]; rfl : runS (prevP xs k) (xs.drop k) = (cellB (prevP xs k) x && runS (some x.pl) (xs.drop (k + 1))))))
        have HPS := Lib.hid (prevP_succ hx)
        obtain ⟨A0, c0, A1, c1, hat⟩ := hcell k x hx
        have e0 := hat.e0
        have e1 := hat.e1
        have HA := Lib.hid hat
        have hi1 : (0 : Int) ≤ (k : Int) := by omega
        have hi2 : (k : Int) < (n : Int) := by omega
        have k1 := fun w h => iplace_n A0 c0 x.pl.length x.pl w h rfl hat.n0
        have k2 := fun w h => istates_any A1 c1 x.st.length x.st w h rfl hat.n1
        have HW := Lib.hid (Below.alloc (Below.refl wr.heap.size wr) (Nat.le_refl _) (.cells #[.slice A0 x.pl.length c0, .slice A1 x.st.length c1] 60))
        have HCB := Lib.hid (show cellB (prevP xs k) x = (placeB x.pl && (statesB x.st && nextB (prevP xs k) x)) from rfl)
        clear hx hat hB
        cases hp : placeB x.pl
        · rw [hp] at k1
          have K1 := Lib.hid k1
          have HV := Lib.hid (HR2.out.trans (by rw [HCB.out, hp]; rfl : _ = false))
          clear k1 k2 hp hcell
          go_wp2_with (go_at_call 53; ((with_reducible refine (K1.out _ (HA.out.pl.below HW.out)).mono ?_); rintro e w2 ⟨rfl, hb2⟩); obtain ⟨hc2, hf2⟩ := bcell hb2; (try simp at hc2 hf2); have hz2 := hb2.size; (try simp at hz2); have HW2 := Lib.hid (HW.out.trans (hb2.mono (by simp))); clear hb2)
          go_ret
          exact ⟨ret_bool HV.out.symm, HB.out.trans (HW2.out.mono HB.out.size)⟩
        · rw [hp] at k1
          have K1 := Lib.hid k1
          have HPP := Lib.hid hp
          clear k1
          cases hs : statesB x.st
          · rw [hs] at k2
            have K2 := Lib.hid k2
            have HV := Lib.hid (HR2.out.trans (by rw [HCB.out, hp, hs]; rfl : _ = false))
            clear k2 hp hs hcell
            go_wp2_with (first | (go_at_call 53; ((with_reducible refine (K1.out _ (HA.out.pl.below HW.out)).mono ?_); rintro e w2 ⟨rfl, hb2⟩); obtain ⟨hc2, hf2⟩ := bcell hb2; (try simp at hc2 hf2); have hz2 := hb2.size; (try simp at hz2); have HW2 := Lib.hid (HW.out.trans (hb2.mono (by simp))); clear hb2) | (go_at_call 54; ((with_reducible refine (K2.out _ (HA.out.st.below HW2.out)).mono ?_); rintro e w3 ⟨rfl, hb3⟩); have hc3 := fun b o h => hb3.cell (p := ⟨b, o, none⟩) h; have hf3 := fun b o h => hb3.frozen (p := ⟨b, o, none⟩) h; (try simp at hc3 hf3); have hz3 := hb3.size; have HW3 := Lib.hid (HW2.out.trans (hb3.mono (by omega))); clear hb3))
            go_ret
            exact ⟨ret_bool HV.out.symm, HB.out.trans (HW3.out.mono HB.out.size)⟩
          rw [hs] at k2
          have K2 := Lib.hid k2
          have HCC := Lib.hid (show cellB (prevP xs k) x = nextB (prevP xs k) x by rw [HCB.out, hp, hs]; rfl)
          clear k2 hp hs
          by_cases hk0 : k = 0
          · subst hk0
            rw [Nat.zero_mul, Nat.add_zero] at e0 e1
            have HV := Lib.hid (HR2.out.trans (by rw [HCC.out, prevP_zero, HPS.out]; rfl : _ = runS (prevP xs (0 + 1)) (xs.drop (0 + 1))))
            clear hcell
            go_wp2_with (first | (go_at_call 53; ((with_reducible refine (K1.out _ (HA.out.pl.below HW.out)).mono ?_); rintro e w2 ⟨rfl, hb2⟩); obtain ⟨hc2, hf2⟩ := bcell hb2; (try simp at hc2 hf2); have hz2 := hb2.size; (try simp at hz2); have HW2 := Lib.hid (HW.out.trans (hb2.mono (by simp))); clear hb2) | (go_at_call 54; ((with_reducible refine (K2.out _ (HA.out.st.below HW2.out)).mono ?_); rintro e w3 ⟨rfl, hb3⟩); have hc3 := fun b o h => hb3.cell (p := ⟨b, o, none⟩) h; have hf3 := fun b o h => hb3.frozen (p := ⟨b, o, none⟩) h; (try simp at hc3 hf3); have hz3 := hb3.size; have HW3 := Lib.hid (HW2.out.trans (hb3.mono (by omega))); clear hb3))
            go_quiet (fail)
            go_wp2_with fail
            go_roundw
            case rel => exact ⟨1, by omega, by go_num, drewN_below (HB.out.trans (HW3.out.mono HB.out.size)) _, hv.out.symm.trans HV.out, Lib.hid (fun q hq => by rw [HPS.out] at hq; injection hq with hq; subst hq; exact HPP.out)⟩
            case measure => simp [intOf]; omega
          obtain ⟨j, rfl⟩ : ∃ j, k = j + 1 := ⟨k - 1, by omega⟩
          obtain ⟨y, hy⟩ := at_some (show j < xs.length by rw [HN.out]; omega)
          obtain ⟨B0, d0, B1, d1, hat'⟩ := hcell j y hy
          have e2 := hat'.e0
          have HP := Lib.hid hat'
          have HPY := Lib.hid (prevP_succ hy)
          have HOV := Lib.hid (orderV_cmp (HPQ.out y.pl HPY.out) HPP.out)
          have k3 := fun v w h h' hv => iorder_n B0 A0 d0 c0 y.pl.length x.pl.length y.pl x.pl v w h h' rfl rfl hat'.n0 HA.out.n0 hv
          have HC3 := Lib.hid (show nextB (prevP xs (j + 1)) x = decide (cmpP y.pl x.pl < 0) by rw [HPY.out]; rfl)
          have hj1 : (0 : Int) ≤ (j : Int) := by omega
          have hj2 : (j : Int) < (n : Int) := by omega
          have hj3 : (0 : Int) ≤ (j : Int) + 1 := by omega
          have hj4 : (j : Int) + 1 < (n : Int) := by omega
          have hw1 : IntKind.i64.wrap (j : Int) = j := IntWalk.i64_in _ (by omega)
          have hw2 : IntKind.i64.wrap ((j : Int) + 1 - 1) = j := by rw [show (j : Int) + 1 - 1 = j by omega]; exact hw1
          clear hcell hat' hy hk0
          have h3 := cmpP_vals y.pl x.pl
          obtain ⟨v, hvv⟩ : ∃ v, cmpP y.pl x.pl = v := ⟨_, rfl⟩
          replace k3 := fun w h h' => k3 v w h h' (HOV.out.trans hvv)
          rw [hvv] at h3 HC3
          clear hvv
          rcases h3 with rfl | rfl | rfl
          · have K3 := Lib.hid k3
            have HV := Lib.hid (HR2.out.trans (by rw [HCC.out, HC3.out, HPS.out]; rfl : _ = runS (prevP xs (j + 1 + 1)) (xs.drop (j + 1 + 1))))
            clear k3
            go_wp2_with (first | (go_at_call 53; ((with_reducible refine (K1.out _ (HA.out.pl.below HW.out)).mono ?_); rintro e w2 ⟨rfl, hb2⟩); obtain ⟨hc2, hf2⟩ := bcell hb2; (try simp at hc2 hf2); have hz2 := hb2.size; (try simp at hz2); have HW2 := Lib.hid (HW.out.trans (hb2.mono (by simp))); clear hb2) | (go_at_call 54; ((with_reducible refine (K2.out _ (HA.out.st.below HW2.out)).mono ?_); rintro e w3 ⟨rfl, hb3⟩); have hc3 := fun b o h => hb3.cell (p := ⟨b, o, none⟩) h; have hf3 := fun b o h => hb3.frozen (p := ⟨b, o, none⟩) h; (try simp at hc3 hf3); have hz3 := hb3.size; have HW3 := Lib.hid (HW2.out.trans (hb3.mono (by omega))); clear hb3))
            have hbx : wr.heap.size < w3.heap.size := by have := HW3.out.size; omega
            have hbj : b < w3.heap.size := by omega
            have e3 : w3.cell? ⟨wr.heap.size, 0, none⟩ = some (.slice A0 x.pl.length c0) := (hc3 _ _ (by omega)).trans ((hc2 _ _ (by omega)).trans (by go_simp))
            have e4 : w3.cell? ⟨b, off + j * 2, none⟩ = some (.slice B0 y.pl.length d0) := (HW3.out.cell (p := ⟨b, off + j * 2, none⟩) hblt).trans e2
            clear e0 e1 e2 hc2 hf2 hz2 hc3 hf3 hz3
            have e0 := e3
            have e1 := e4
            clear e3 e4
            refine wp_region_held_drew (S := (fun w' => Below w3.heap.size w3 w' ∧ w'.cell? ⟨wr.heap.size, 0, none⟩ = some (.slice A0 x.pl.length c0) ∧ w'.cell? ⟨b, off + j * 2, none⟩ = some (.slice B0 y.pl.length d0))) (by kernel_rfl) ?_ (fun hHeld => ?_)
            · exact ⟨Below.drew (Below.refl _ _), e0, e1⟩
            refine wpAnyH_take (i := 0) (oi := _) (v := ?_) rfl (by kernel_rfl) (by kernel_rfl) (by kernel_rfl) (fun _ _ _ h => h) (Or.inl ⟨by kernel_rfl, ?_⟩) (by assumption) ?_
            rotate_left
            · (intro w hSw; (try dsimp only at hSw); go_simp)
              try with_reducible rfl
            (try simp only [Act.put, List.getElem_toArray, List.getElem_cons_zero, List.getElem_cons_succ, List.setIfInBounds_toArray, List.set_cons_zero, List.set_cons_succ])
            refine wpAnyH_take (i := 1) (oi := _) (v := ?_) rfl (by kernel_rfl) (by kernel_rfl) (by kernel_rfl) (fun _ _ _ h => h) (Or.inl ⟨by kernel_rfl, ?_⟩) (by assumption) ?_
            rotate_left
            · (intro w hSw; (try dsimp only at hSw); go_simp)
              try with_reducible rfl
            (try simp only [Act.put, List.getElem_toArray, List.getElem_cons_zero, List.getElem_cons_succ, List.setIfInBounds_toArray, List.set_cons_zero, List.set_cons_succ])
            refine wpAnyH_take (i := 2) (oi := _) (v := ?_) rfl (by kernel_rfl) (by kernel_rfl) (by kernel_rfl) (fun _ _ _ h => h) (Or.inl ⟨by kernel_rfl, ?_⟩) (by assumption) ?_
            rotate_left
            · (intro w hSw; (try dsimp only at hSw); go_simp)
              try with_reducible rfl
            (try simp only [Act.put, List.getElem_toArray, List.getElem_cons_zero, List.getElem_cons_succ, List.setIfInBounds_toArray, List.set_cons_zero, List.set_cons_succ])
            refine wpAnyH_take (i := 3) (oi := _) (v := ?_) rfl (by kernel_rfl) (by kernel_rfl) (by kernel_rfl) (fun _ _ _ h => h) (Or.inl ⟨by kernel_rfl, ?_⟩) (by assumption) ?_
            rotate_left
            · (intro w hSw; (try dsimp only at hSw); go_simp)
              try with_reducible rfl
            (try simp only [Act.put, List.getElem_toArray, List.getElem_cons_zero, List.getElem_cons_succ, List.setIfInBounds_toArray, List.set_cons_zero, List.set_cons_succ])
            refine wpAnyH_take (i := 4) (oi := _) (v := ?_) rfl (by kernel_rfl) (by kernel_rfl) (by kernel_rfl) (fun _ _ _ h => h) (Or.inl ⟨by kernel_rfl, ?_⟩) (by assumption) ?_
            rotate_left
            · (intro w hSw; (try dsimp only at hSw); go_simp)
              try with_reducible rfl
            (try simp only [Act.put, List.getElem_toArray, List.getElem_cons_zero, List.getElem_cons_succ, List.setIfInBounds_toArray, List.set_cons_zero, List.set_cons_succ])
            refine wpAnyH_take (i := 5) (oi := _) (v := ?_) rfl (by kernel_rfl) (by kernel_rfl) (by kernel_rfl) (fun _ _ _ h => h) (Or.inl ⟨by kernel_rfl, ?_⟩) (by assumption) ?_
            rotate_left
            · (intro w hSw; (try dsimp only at hSw); go_simp)
              try with_reducible rfl
            (try simp only [Act.put, List.getElem_toArray, List.getElem_cons_zero, List.getElem_cons_succ, List.setIfInBounds_toArray, List.set_cons_zero, List.set_cons_succ])
            refine wpAnyH_take (i := 6) (oi := _) (v := ?_) rfl (by kernel_rfl) (by kernel_rfl) (by kernel_rfl) (fun _ _ _ h => h) (Or.inl ⟨by kernel_rfl, ?_⟩) (by assumption) ?_
            rotate_left
            · (intro w hSw; (try dsimp only at hSw); go_simp)
              try with_reducible rfl
            (try simp only [Act.put, List.getElem_toArray, List.getElem_cons_zero, List.getElem_cons_succ, List.setIfInBounds_toArray, List.set_cons_zero, List.set_cons_succ])
            refine wpAnyH_take (i := 7) (oi := _) (v := ?_) rfl (by kernel_rfl) (by kernel_rfl) (by kernel_rfl) (fun _ _ _ h => h) (Or.inl ⟨by kernel_rfl, ?_⟩) (by assumption) ?_
            rotate_left
            · (intro w hSw; (try dsimp only at hSw); go_simp)
              try with_reducible rfl
            (try simp only [Act.put, List.getElem_toArray, List.getElem_cons_zero, List.getElem_cons_succ, List.setIfInBounds_toArray, List.set_cons_zero, List.set_cons_succ])
            refine wpAnyH_take (i := 8) (oi := _) (v := ?_) rfl (by kernel_rfl) (by kernel_rfl) (by kernel_rfl) (fun _ _ _ h => h) (Or.inl ⟨by kernel_rfl, ?_⟩) (by assumption) ?_
            rotate_left
            · (intro w hSw; (try dsimp only at hSw); go_simp)
              try with_reducible rfl
            (try simp only [Act.put, List.getElem_toArray, List.getElem_cons_zero, List.getElem_cons_succ, List.setIfInBounds_toArray, List.set_cons_zero, List.set_cons_succ])
            refine wpAnyH_take (i := 9) (oi := _) (v := ?_) rfl (by kernel_rfl) (by kernel_rfl) (by kernel_rfl) (fun _ _ _ h => h) (Or.inl ⟨by kernel_rfl, ?_⟩) (by assumption) ?_
            rotate_left
            · (intro w hSw; (try dsimp only at hSw); go_simp)
              try with_reducible rfl
            (try simp only [Act.put, List.getElem_toArray, List.getElem_cons_zero, List.getElem_cons_succ, List.setIfInBounds_toArray, List.set_cons_zero, List.set_cons_succ])
            refine wpAnyH_take (i := 10) (oi := _) (v := ?_) rfl (by kernel_rfl) (by kernel_rfl) (by kernel_rfl) (fun _ _ _ h => h) (Or.inl ⟨by kernel_rfl, ?_⟩) (by assumption) ?_
            rotate_left
            · (intro w hSw; (try dsimp only at hSw); go_simp)
              try with_reducible rfl
            (try simp only [Act.put, List.getElem_toArray, List.getElem_cons_zero, List.getElem_cons_succ, List.setIfInBounds_toArray, List.set_cons_zero, List.set_cons_succ])
            refine wpAnyH_ready (rs := [11]) (by kernel_rfl) (by simp) ?_
            refine AllReadyH.cons (o := _) rfl (fun K hK => ?_) AllReadyH.nil
            go_simp
            have hB0 := hHeld.1
            refine (K3.out _ (by exact (HP.out.pl.below (HW3.out.trans (hB0.mono HW3.out.size)))) (by exact (HA.out.pl.below (HW3.out.trans (hB0.mono HW3.out.size))))).mono ?_
            rintro e w' ⟨rfl, hb⟩
            refine hK.out _ _ ?_ (fun hHeld2 => ?_)
            · obtain ⟨_, d0, d1⟩ := hHeld
              exact ⟨hB0.trans (hb.mono hB0.size), (hb.cell (p := ⟨wr.heap.size, 0, none⟩) (Nat.lt_of_lt_of_le hbx hB0.size)).trans d0, (hb.cell (p := ⟨b, off + j * 2, none⟩) (Nat.lt_of_lt_of_le hbj hB0.size)).trans d1⟩
            clear hK K hb hB0 hHeld
            (try simp only [Act.put, List.getElem_toArray, List.getElem_cons_zero, List.getElem_cons_succ, List.setIfInBounds_toArray, List.set_cons_zero, List.set_cons_succ])
            refine wpAnyH_take (i := 12) (oi := _) (v := ?_) rfl (by kernel_rfl) (by kernel_rfl) (by kernel_rfl) (fun _ _ _ h => h) (Or.inl ⟨by kernel_rfl, ?_⟩) (by assumption) ?_
            rotate_left
            · (intro w hSw; (try dsimp only at hSw); go_simp)
              try with_reducible rfl
            (try simp only [Act.put, List.getElem_toArray, List.getElem_cons_zero, List.getElem_cons_succ, List.setIfInBounds_toArray, List.set_cons_zero, List.set_cons_succ])
            refine wpAnyH_take (i := 13) (oi := _) (v := ?_) rfl (by kernel_rfl) (by kernel_rfl) (by kernel_rfl) (fun _ _ _ h => h) (Or.inl ⟨by kernel_rfl, ?_⟩) (by assumption) ?_
            rotate_left
            · (intro w hSw; (try dsimp only at hSw); go_simp)
              try with_reducible rfl
            (try simp only [Act.put, List.getElem_toArray, List.getElem_cons_zero, List.getElem_cons_succ, List.setIfInBounds_toArray, List.set_cons_zero, List.set_cons_succ])
            refine wpAnyH_done (by kernel_rfl) ?_ _
            obtain ⟨hK3, _⟩ := hHeld2
            go_wp2_with fail
            go_roundw
            case rel => exact ⟨j + 1 + 1, by omega, by go_num, HB.out.trans ((HW3.out.trans (hK3.mono HW3.out.size)).mono HB.out.size), hv.out.symm.trans HV.out, Lib.hid (fun q hq => by rw [HPS.out] at hq; injection hq with hq; subst hq; exact HPP.out)⟩
            case measure => simp [intOf]; omega
          all_goals
            have K3 := Lib.hid k3
            have HV := Lib.hid (HR2.out.trans (by rw [HCC.out, HC3.out]; rfl : _ = false))
            clear k3
            go_wp2_with (first | (go_at_call 53; ((with_reducible refine (K1.out _ (HA.out.pl.below HW.out)).mono ?_); rintro e w2 ⟨rfl, hb2⟩); obtain ⟨hc2, hf2⟩ := bcell hb2; (try simp at hc2 hf2); have hz2 := hb2.size; (try simp at hz2); have HW2 := Lib.hid (HW.out.trans (hb2.mono (by simp))); clear hb2) | (go_at_call 54; ((with_reducible refine (K2.out _ (HA.out.st.below HW2.out)).mono ?_); rintro e w3 ⟨rfl, hb3⟩); have hc3 := fun b o h => hb3.cell (p := ⟨b, o, none⟩) h; have hf3 := fun b o h => hb3.frozen (p := ⟨b, o, none⟩) h; (try simp at hc3 hf3); have hz3 := hb3.size; have HW3 := Lib.hid (HW2.out.trans (hb3.mono (by omega))); clear hb3))
            have hbx : wr.heap.size < w3.heap.size := by have := HW3.out.size; omega
            have hbj : b < w3.heap.size := by omega
            have e3 : w3.cell? ⟨wr.heap.size, 0, none⟩ = some (.slice A0 x.pl.length c0) := (hc3 _ _ (by omega)).trans ((hc2 _ _ (by omega)).trans (by go_simp))
            have e4 : w3.cell? ⟨b, off + j * 2, none⟩ = some (.slice B0 y.pl.length d0) := (HW3.out.cell (p := ⟨b, off + j * 2, none⟩) hblt).trans e2
            clear e0 e1 e2 hc2 hf2 hz2 hc3 hf3 hz3
            have e0 := e3
            have e1 := e4
            clear e3 e4
            refine wp_region_held_drew (S := (fun w' => Below w3.heap.size w3 w' ∧ w'.cell? ⟨wr.heap.size, 0, none⟩ = some (.slice A0 x.pl.length c0) ∧ w'.cell? ⟨b, off + j * 2, none⟩ = some (.slice B0 y.pl.length d0))) (by kernel_rfl) ?_ (fun hHeld => ?_)
            · exact ⟨Below.drew (Below.refl _ _), e0, e1⟩
            refine wpAnyH_take (i := 0) (oi := _) (v := ?_) rfl (by kernel_rfl) (by kernel_rfl) (by kernel_rfl) (fun _ _ _ h => h) (Or.inl ⟨by kernel_rfl, ?_⟩) (by assumption) ?_
            rotate_left
            · (intro w hSw; (try dsimp only at hSw); go_simp)
              try with_reducible rfl
            (try simp only [Act.put, List.getElem_toArray, List.getElem_cons_zero, List.getElem_cons_succ, List.setIfInBounds_toArray, List.set_cons_zero, List.set_cons_succ])
            refine wpAnyH_take (i := 1) (oi := _) (v := ?_) rfl (by kernel_rfl) (by kernel_rfl) (by kernel_rfl) (fun _ _ _ h => h) (Or.inl ⟨by kernel_rfl, ?_⟩) (by assumption) ?_
            rotate_left
            · (intro w hSw; (try dsimp only at hSw); go_simp)
              try with_reducible rfl
            (try simp only [Act.put, List.getElem_toArray, List.getElem_cons_zero, List.getElem_cons_succ, List.setIfInBounds_toArray, List.set_cons_zero, List.set_cons_succ])
            refine wpAnyH_take (i := 2) (oi := _) (v := ?_) rfl (by kernel_rfl) (by kernel_rfl) (by kernel_rfl) (fun _ _ _ h => h) (Or.inl ⟨by kernel_rfl, ?_⟩) (by assumption) ?_
            rotate_left
            · (intro w hSw; (try dsimp only at hSw); go_simp)
              try with_reducible rfl
            (try simp only [Act.put, List.getElem_toArray, List.getElem_cons_zero, List.getElem_cons_succ, List.setIfInBounds_toArray, List.set_cons_zero, List.set_cons_succ])
            refine wpAnyH_take (i := 3) (oi := _) (v := ?_) rfl (by kernel_rfl) (by kernel_rfl) (by kernel_rfl) (fun _ _ _ h => h) (Or.inl ⟨by kernel_rfl, ?_⟩) (by assumption) ?_
            rotate_left
            · (intro w hSw; (try dsimp only at hSw); go_simp)
              try with_reducible rfl
            (try simp only [Act.put, List.getElem_toArray, List.getElem_cons_zero, List.getElem_cons_succ, List.setIfInBounds_toArray, List.set_cons_zero, List.set_cons_succ])
            refine wpAnyH_take (i := 4) (oi := _) (v := ?_) rfl (by kernel_rfl) (by kernel_rfl) (by kernel_rfl) (fun _ _ _ h => h) (Or.inl ⟨by kernel_rfl, ?_⟩) (by assumption) ?_
            rotate_left
            · (intro w hSw; (try dsimp only at hSw); go_simp)
              try with_reducible rfl
            (try simp only [Act.put, List.getElem_toArray, List.getElem_cons_zero, List.getElem_cons_succ, List.setIfInBounds_toArray, List.set_cons_zero, List.set_cons_succ])
            refine wpAnyH_take (i := 5) (oi := _) (v := ?_) rfl (by kernel_rfl) (by kernel_rfl) (by kernel_rfl) (fun _ _ _ h => h) (Or.inl ⟨by kernel_rfl, ?_⟩) (by assumption) ?_
            rotate_left
            · (intro w hSw; (try dsimp only at hSw); go_simp)
              try with_reducible rfl
            (try simp only [Act.put, List.getElem_toArray, List.getElem_cons_zero, List.getElem_cons_succ, List.setIfInBounds_toArray, List.set_cons_zero, List.set_cons_succ])
            refine wpAnyH_take (i := 6) (oi := _) (v := ?_) rfl (by kernel_rfl) (by kernel_rfl) (by kernel_rfl) (fun _ _ _ h => h) (Or.inl ⟨by kernel_rfl, ?_⟩) (by assumption) ?_
            rotate_left
            · (intro w hSw; (try dsimp only at hSw); go_simp)
              try with_reducible rfl
            (try simp only [Act.put, List.getElem_toArray, List.getElem_cons_zero, List.getElem_cons_succ, List.setIfInBounds_toArray, List.set_cons_zero, List.set_cons_succ])
            refine wpAnyH_take (i := 7) (oi := _) (v := ?_) rfl (by kernel_rfl) (by kernel_rfl) (by kernel_rfl) (fun _ _ _ h => h) (Or.inl ⟨by kernel_rfl, ?_⟩) (by assumption) ?_
            rotate_left
            · (intro w hSw; (try dsimp only at hSw); go_simp)
              try with_reducible rfl
            (try simp only [Act.put, List.getElem_toArray, List.getElem_cons_zero, List.getElem_cons_succ, List.setIfInBounds_toArray, List.set_cons_zero, List.set_cons_succ])
            refine wpAnyH_take (i := 8) (oi := _) (v := ?_) rfl (by kernel_rfl) (by kernel_rfl) (by kernel_rfl) (fun _ _ _ h => h) (Or.inl ⟨by kernel_rfl, ?_⟩) (by assumption) ?_
            rotate_left
            · (intro w hSw; (try dsimp only at hSw); go_simp)
              try with_reducible rfl
            (try simp only [Act.put, List.getElem_toArray, List.getElem_cons_zero, List.getElem_cons_succ, List.setIfInBounds_toArray, List.set_cons_zero, List.set_cons_succ])
            refine wpAnyH_take (i := 9) (oi := _) (v := ?_) rfl (by kernel_rfl) (by kernel_rfl) (by kernel_rfl) (fun _ _ _ h => h) (Or.inl ⟨by kernel_rfl, ?_⟩) (by assumption) ?_
            rotate_left
            · (intro w hSw; (try dsimp only at hSw); go_simp)
              try with_reducible rfl
            (try simp only [Act.put, List.getElem_toArray, List.getElem_cons_zero, List.getElem_cons_succ, List.setIfInBounds_toArray, List.set_cons_zero, List.set_cons_succ])
            refine wpAnyH_take (i := 10) (oi := _) (v := ?_) rfl (by kernel_rfl) (by kernel_rfl) (by kernel_rfl) (fun _ _ _ h => h) (Or.inl ⟨by kernel_rfl, ?_⟩) (by assumption) ?_
            rotate_left
            · (intro w hSw; (try dsimp only at hSw); go_simp)
              try with_reducible rfl
            (try simp only [Act.put, List.getElem_toArray, List.getElem_cons_zero, List.getElem_cons_succ, List.setIfInBounds_toArray, List.set_cons_zero, List.set_cons_succ])
            refine wpAnyH_ready (rs := [11]) (by kernel_rfl) (by simp) ?_
            refine AllReadyH.cons (o := _) rfl (fun K hK => ?_) AllReadyH.nil
            go_simp
            have hB0 := hHeld.1
            refine (K3.out _ (by exact (HP.out.pl.below (HW3.out.trans (hB0.mono HW3.out.size)))) (by exact (HA.out.pl.below (HW3.out.trans (hB0.mono HW3.out.size))))).mono ?_
            rintro e w' ⟨rfl, hb⟩
            refine hK.out _ _ ?_ (fun hHeld2 => ?_)
            · obtain ⟨_, d0, d1⟩ := hHeld
              exact ⟨hB0.trans (hb.mono hB0.size), (hb.cell (p := ⟨wr.heap.size, 0, none⟩) (Nat.lt_of_lt_of_le hbx hB0.size)).trans d0, (hb.cell (p := ⟨b, off + j * 2, none⟩) (Nat.lt_of_lt_of_le hbj hB0.size)).trans d1⟩
            clear hK K hb hB0 hHeld
            (try simp only [Act.put, List.getElem_toArray, List.getElem_cons_zero, List.getElem_cons_succ, List.setIfInBounds_toArray, List.set_cons_zero, List.set_cons_succ])
            refine wpAnyH_take (i := 12) (oi := _) (v := ?_) rfl (by kernel_rfl) (by kernel_rfl) (by kernel_rfl) (fun _ _ _ h => h) (Or.inl ⟨by kernel_rfl, ?_⟩) (by assumption) ?_
            rotate_left
            · (intro w hSw; (try dsimp only at hSw); go_simp)
              try with_reducible rfl
            (try simp only [Act.put, List.getElem_toArray, List.getElem_cons_zero, List.getElem_cons_succ, List.setIfInBounds_toArray, List.set_cons_zero, List.set_cons_succ])
            refine wpAnyH_take (i := 13) (oi := _) (v := ?_) rfl (by kernel_rfl) (by kernel_rfl) (by kernel_rfl) (fun _ _ _ h => h) (Or.inl ⟨by kernel_rfl, ?_⟩) (by assumption) ?_
            rotate_left
            · (intro w hSw; (try dsimp only at hSw); go_simp)
              try with_reducible rfl
            (try simp only [Act.put, List.getElem_toArray, List.getElem_cons_zero, List.getElem_cons_succ, List.setIfInBounds_toArray, List.set_cons_zero, List.set_cons_succ])
            refine wpAnyH_done (by kernel_rfl) ?_ _
            obtain ⟨hK3, _⟩ := hHeld2
            go_wp2_with fail
            go_ret
            exact ⟨ret_bool HV.out.symm, HB.out.trans ((HW3.out.trans (hK3.mono HW3.out.size)).mono HB.out.size)⟩
      · have hv2 := Lib.hid (hv.out.trans (HR.out.trans (by rw [drop_none (by rw [HN.out]; omega)]; rfl : runS (prevP xs k) (xs.drop k) = true)))
        go_wp2_with fail
        go_ret
        exact ⟨ret_bool hv2.out.symm, hB⟩
  · have hd : decide (200 < (n : Int)) = true := by simp; omega
    have hv := Lib.hid (show storeB xs = false by unfold storeB; rw [decide_eq_false (by omega)]; rfl)
    clear hn
    go_enter Try.func36, Try.ntmps36
    go_wp2_with fail
    go_ret
    exact ⟨ret_bool hv.out.symm, by go_grown⟩
end Go.Proofs.Ytkofajjlkhamkaa
