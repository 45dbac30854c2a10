/- Stores: what is cut, in the program's own text. -/
import Derived.Test.YtfdejmdhcjfboaaKey11
import Derived.Test.YtfdejmdhcjfboaaPlcD
namespace Go.Proofs.Ytfdejmdhcjfboaa
open Go.Joins Go.ChangeShapes Go.WideShapes Go.ChangeAt Go.RowKit Go.Deep Go.Maps Go.Sort Go.Shelf
set_option linter.unusedVariables false
set_option linter.unusedSimpArgs false

/-- A store handed back, wherever it lies, or nil. -/
def CutIX (r : Option (List Ce)) (w : World) (e : Ending) (w' : World) : Prop :=
  Below w.heap.size w w' ∧ match r with
    | none => e = .returned (.slice none 0 0)
    | some ys => ∃ A c, e = .returned (.slice A ys.length c) ∧ CeN w' A ys ∧ ys.length ≤ c
/-- A store handed back in the call's own memory, its rows apart, or nil. -/
def CutA (r : Option (List Ce)) (w : World) (e : Ending) (w' : World) : Prop :=
  Below w.heap.size w w' ∧ match r with
    | none => e = .returned (.slice none 0 0)
    | some ys => (ys = [] ∧ e = .returned (.slice none 0 0)) ∨ ∃ b c L, e = .returned (.slice (some ⟨b, 0, none⟩) ys.length c) ∧ OwnC w' w.heap.size b c ys.length L ∧ StoA w' w.heap.size L ys
theorem cut_any (p : List Sl) (hp : Fits p) (s : List UInt8) : ∀ (xs : List Ce), (∀ x ∈ xs, Fits x.pl) → ((xs.any fun x => decide (keyB x.pl = s)) && !(keyB p).isPrefixOf s) = (cutL xs p).any fun x => decide (keyB x.pl = s)
  | [], _ => rfl
  | x :: xs, h => by
    have ih := cut_any p hp s xs (fun y hy => h y (List.mem_cons_of_mem _ hy))
    have hx := pre_under p x.pl hp (h x (by simp))
    unfold cutL at *
    rw [List.any_cons, List.filter_cons]
    by_cases e : keyB x.pl = s
    · rw [e] at hx
      cases hu : underB x.pl p
      · rw [hu] at hx
        simp [e, hx]
      · rw [hu] at hx
        rw [hx] at ih ⊢
        simpa using ih
    · cases hu : underB x.pl p
      · simpa [e] using ih
      · simpa [e] using ih
theorem cut_facts {w w3 : World} {b n : Nat} {D : DataW Value} {xs : List Ce} {p : List Sl} (hown : w.ownsMap Try.prog 9 RV b n D) (hD : ∀ t, has D (.string t) = xs.any fun x => decide (keyB x.pl = t)) (hC : ∀ x ∈ xs, CellV w3 D x) (hr : runS none xs = true) (hp : placeB p = true) :
    (∀ t, has (Lib.deleteFuncD (preD (keyB p)) D) (.string t) = (cutL xs p).any fun x => decide (keyB x.pl = t)) ∧ (∀ x ∈ cutL xs p, CellV w3 (Lib.deleteFuncD (preD (keyB p)) D) x) := by
  have hfit : ∀ x ∈ xs, Fits x.pl := fun x hx => Fits.of_place (cell_ok xs none hr x hx).1
  refine ⟨fun t => ?_, fun x hx => ?_⟩
  · rw [has_del hown.isMap, hD t]
    exact cut_any p (Fits.of_place hp) t xs hfit
  · unfold cutL at hx
    rw [List.mem_filter] at hx
    obtain ⟨hx, hu⟩ := hx
    obtain ⟨b0, o0, c0, b1, o1, c1, h0, h1, h2⟩ := hC x hx
    have hpre : (keyB p).isPrefixOf (keyB x.pl) = false := by rw [pre_under p x.pl (Fits.of_place hp) (hfit x hx)]; simpa using hu
    exact ⟨b0, o0, c0, b1, o1, c1, fun z => by rw [at_del hown.isMap _ _ hpre, h0], h1, h2⟩
set_option maxRecDepth 100000 in
set_option maxHeartbeats 2000000 in
theorem icutA_any (A A' : Option Addr) (c c' n m : Nat) (xs : List Ce) (p : List Sl) (w : World) (hx : CeN w A xs) (hp : SlL w A' p) (hn : xs.length = n) (hm : p.length = m) (hl : n ≤ maxLen) (hl' : m ≤ maxLen) :
    Calls Try.prog 47 #[.slice A n c, .slice A' m c'] w (CutA (cutV xs p) w) := by
  have HN := Lib.hid hn
  have HM := Lib.hid hm
  have HX := Lib.hid hx
  have HP := Lib.hid hp
  have HB0 := Lib.hid (Below.refl w.heap.size w)
  obtain ⟨s, hs⟩ : ∃ s, storeB xs = s := ⟨_, rfl⟩
  obtain ⟨t, ht⟩ : ∃ t, placeB p = t := ⟨_, rfl⟩
  have KS := Lib.hid (fun w hx => istore_any A c n xs w hx hn hl)
  have KP := Lib.hid (fun w hx => iplace_n A' c' m p w hx hm hl')
  have HPV := Lib.hid (show cutV xs p = if (s && t) = true then some (cutL xs p) else none by unfold cutV; rw [hs, ht])
  rw [hs] at KS
  rw [ht] at KP
  have HS := Lib.hid hs
  have HT := Lib.hid ht
  unfold maxLen at hl hl'
  clear hx hp hs ht hn hm
  go_enter Try.func47, Try.ntmps47
  go_wp2_with fail
  refine (KS.out w HX.out.cel).mono ?_
  rintro e w1 ⟨rfl, hb⟩
  replace HX := Lib.hid (HX.out.below hb)
  replace HP := Lib.hid (HP.out.below hb)
  have HB1 := Lib.hid (more HB0.out (Nat.le_refl _) hb)
  clear hb
  cases s
  · have HR := Lib.hid (HPV.out.trans rfl)
    go_wp2_with fail
    go_ret
    exact ⟨HB1.out, by rw [HR.out]; rfl⟩
  go_wp2_with fail
  refine (KP.out w1 HP.out).mono ?_
  rintro e w2 ⟨rfl, hb⟩
  replace HX := Lib.hid (HX.out.below hb)
  replace HP := Lib.hid (HP.out.below hb)
  have HB2 := Lib.hid (more HB1.out (Nat.le_refl _) hb)
  clear hb
  cases t
  · have HR := Lib.hid (HPV.out.trans rfl)
    go_wp2_with fail
    go_ret
    exact ⟨HB2.out, by rw [HR.out]; rfl⟩
  have HR := Lib.hid (HPV.out.trans rfl)
  have hn200 : n ≤ 200 := by rw [← HN.out]; exact store_len HS.out
  have hm20 : m ≤ 20 := by rw [← HM.out]; exact place_len HT.out
  have HRS := Lib.hid (show runS none xs = true by have := HS.out; unfold storeB at this; rw [Bool.and_eq_true] at this; exact this.2)
  go_wp2_with fail
  refine (cellsByKey_any A c n xs w2 HX.out HN.out (by omega) HRS.out).mono ?_
  rintro e w3 ⟨bm, nm, D, rfl, hbm, hnm, hown, hD, hC, hb⟩
  rw [HN.out] at hnm
  have hz2 := HB2.out.size
  have HB3 := Lib.hid (more HB2.out (Nat.le_refl _) hb)
  have G3 := Lib.hid hb
  have HO3 := Lib.hid hown
  have HD3 := Lib.hid hD
  have HC3 := Lib.hid hC
  have hbl3 := hown.lt
  have hy3 := hb.size
  clear hb hown hD hC KS KP
  go_wp2_with fail
  refine (keyOf_any A' c' m p w3 (HP.out.below G3.out) HM.out (by omega) (Fits.of_place HT.out)).mono ?_
  rintro e w4 ⟨rfl, hb⟩
  have HB4 := Lib.hid (more HB3.out (Nat.le_refl _) hb)
  have G4 := Lib.hid (G3.out.trans (hb.mono hy3))
  have HO4 := Lib.hid (HO3.out.kept (Below.keeps hb) (by simp))
  have hy4 := hb.size
  clear hb
  have hba := Below.alloc (Below.refl w4.heap.size w4) (Nat.le_refl _) (.cells #[.string ⟨(keyB p).toArray⟩] 9)
  have HO5 := Lib.hid (HO4.out.alloc (.cells #[.string ⟨(keyB p).toArray⟩] 9))
  have HB5 := Lib.hid (HB4.out.trans (hba.mono HB4.out.size))
  have G5 := Lib.hid (G4.out.trans (hba.mono G4.out.size))
  have HKS := Lib.hid (strike_any bm nm w4.heap.size (keyB p) D _ HO5.out (fun s hs => by
    rw [HD3.out s, List.any_eq_true] at hs
    obtain ⟨x, hx, he⟩ := hs
    have he := of_decide_eq_true he
    subst he
    obtain ⟨b0, o0, c0, b1, o1, c1, h0, _⟩ := HC3.out x hx
    exact ⟨_, _, _, _, _, _, h0⟩) (by rw [World.cell?_alloc_at _ _ _ _ (by simp)]; rfl) (by omega))
  clear hba
  go_wp2_with fail
  refine HKS.out.mono ?_
  rintro e w6 ⟨rfl, ho, hgr⟩
  have HF := Lib.hid (cut_facts HO5.out HD3.out HC3.out HRS.out HT.out)
  have HO6 := Lib.hid ho
  have HB6 := Lib.hid (HB5.out.grown hgr HB5.out.size (fun i hi => by injection hi with hi; omega))
  have G6 := Lib.hid (G5.out.grown hgr G5.out.size (fun i hi => by injection hi with hi; omega))
  have HPW := Lib.hid (show ((cutL xs p).map fun x => keyB x.pl).Pairwise (· < ·) from (keys_rise xs none HRS.out).sublist (List.filter_sublist.map _))
  have hjl : (cutL xs p).length ≤ n := by rw [← HN.out]; exact List.length_filter_le _ _
  have HSM := Lib.hid (show SmallC (cutL xs p) from fun x hx => SmallC.of_ok HS.out x (List.mem_filter.1 hx).1)
  obtain ⟨j, hj⟩ : ∃ j, (cutL xs p).length = j := ⟨_, rfl⟩
  rw [hj] at hjl
  have HJ := Lib.hid hj
  clear ho hgr HKS hj
  go_wp2_with fail
  refine (store_any bm nm j _ _ w6 HO6.out HF.out.1 (fun x hx => (HF.out.2 x hx).below G6.out) HPW.out (by omega) HJ.out (by omega) HSM.out).mono ?_
  rintro e w7 ⟨hb, v, L, rfl, hrow, hsto⟩
  have HB7 := Lib.hid (more HB6.out (Nat.le_refl _) hb)
  rcases hrow.2 with ⟨rfl, h0⟩ | ⟨g, cap, cur, rfl, _, _, hcap, _⟩
  · clear hb hrow hsto
    go_wp2_with fail
    go_ret
    refine ⟨HB7.out, ?_⟩
    rw [HR.out]
    exact .inl ⟨List.eq_nil_of_length_eq_zero (by rw [HJ.out]; omega), rfl⟩
  · have HO7 := Lib.hid (World.ownsRow.mono hrow HB6.out.size)
    have HW7 := Lib.hid (hsto.mono HB6.out.size)
    clear hb hrow hsto
    go_wp2_with fail
    go_ret
    refine ⟨HB7.out, ?_⟩
    rw [HR.out]
    exact .inr ⟨g, cap, L, by rw [HJ.out]; rfl, by rw [HJ.out]; exact HO7.out, HW7.out⟩
theorem cutV_small {xs : List Ce} {p : List Sl} {ys : List Ce} (h : cutV xs p = some ys) : SmallC ys := by
  unfold cutV at h
  split at h
  · next hc =>
    injection h with h
    subst h
    rw [Bool.and_eq_true] at hc
    exact fun x hx => SmallC.of_ok hc.1 x (List.mem_filter.1 hx).1
  · cases h
theorem icut_any (A A' : Option Addr) (c c' n m : Nat) (xs : List Ce) (p : List Sl) (w : World) (hx : CeN w A xs) (hp : SlL w A' p) (hn : xs.length = n) (hm : p.length = m) (hl : n ≤ maxLen) (hl' : m ≤ maxLen) :
    Calls Try.prog 47 #[.slice A n c, .slice A' m c'] w (CutIX (cutV xs p) w) := by
  refine (icutA_any A A' c c' n m xs p w hx hp hn hm hl hl').mono fun e w' h => ?_
  refine ⟨h.1, ?_⟩
  have h2 := h.2
  have hsm := fun ys h => cutV_small (xs := xs) (p := p) (ys := ys) h
  revert h2 hsm
  generalize cutV xs p = r
  intro h2 hsm
  cases r with
  | none => exact h2
  | some ys =>
    rcases h2 with ⟨rfl, rfl⟩ | ⟨b, c, L, h3, h4, h5⟩
    · exact ⟨none, 0, rfl, fun h => by simp at h, Nat.le_refl _⟩
    · exact ⟨_, c, h3, CeN.of_sto h4 h5.toW rfl (hsm ys rfl), row_cap h4⟩
end Go.Proofs.Ytfdejmdhcjfboaa
