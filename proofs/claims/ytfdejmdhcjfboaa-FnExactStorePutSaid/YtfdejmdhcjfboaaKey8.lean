/- Stores: what is put, in the program's own text. -/
import Derived.Test.YtfdejmdhcjfboaaKey7
import Derived.Test.YtfdejmdhcjfboaaPlcD
namespace Go.Proofs.Ytfdejmdhcjfboaa
open Go.Joins Go.ChangeShapes Go.WideShapes Go.ChangeAt Go.RowKit Go.Deep Go.Maps Go.Sort Go.Shelf
set_option linter.unusedVariables false
set_option linter.unusedSimpArgs false

/-- What is answered where a store is handed back, or nothing; the store's rows lie apart. -/
def PutA (r : Option (List Ce)) (w : World) (e : Ending) (w' : World) : Prop :=
  Below w.heap.size w w' ∧ match r with
    | none => e = .returned (.tuple #[.slice none 0 0, .bool false])
    | some ys => ∃ b c L, e = .returned (.tuple #[.slice (some ⟨b, 0, none⟩) ys.length c, .bool true]) ∧ OwnC w' w.heap.size b c ys.length L ∧ StoA w' w.heap.size L ys
theorem SmallC.of_run {xs : List Ce} (h : runS none xs = true) : SmallC xs := fun x hx => by
  have := cell_ok xs none h x hx
  have h1 := place_len this.1
  have h2 := states_len this.2
  exact ⟨by omega, by omega⟩
/-- A map of a store's cells, one put into it. -/
theorem put_facts {w w3 : World} {b n p o q r c0 c1 m k : Nat} {D : DataW Value} {xs : List Ce} {ps : List Sl} {vs : List Va} (hown : w.ownsMap Try.prog 9 RV b n D) (hD : ∀ t, has D (.string t) = xs.any fun x => decide (keyB x.pl = t)) (hC : ∀ x ∈ xs, CellV w3 D x)
    (hr : runS none xs = true) (hp : placeB ps = true) (hsl : SlL w3 (some ⟨p, o, none⟩) ps) (hva : VaL w3 (some ⟨q, r, none⟩) vs) (hm : ps.length = m) (hk : vs.length = k) :
    (∀ t, has (D.put (.string (keyB ps)) (.held (.agg #[.slice (some ⟨p, o, none⟩) m c0, .slice (some ⟨q, r, none⟩) k c1]))) (.string t) = (putS xs ⟨ps, vs⟩).any fun x => decide (keyB x.pl = t)) ∧
    (∀ x ∈ putS xs ⟨ps, vs⟩, CellV w3 (D.put (.string (keyB ps)) (.held (.agg #[.slice (some ⟨p, o, none⟩) m c0, .slice (some ⟨q, r, none⟩) k c1]))) x) := by
  have hlit := lawS.key (key_lit (keyB ps) (by rw [keyB_len]; have := place_len hp; omega))
  subst hm hk
  refine ⟨fun t => ?_, fun x hx => ?_⟩
  · rw [putS_putI, putI_any, ← hD t]
    by_cases he : keyB ps = t
    · subst he
      rw [has_put_same hown.isMap hlit]
      simp
    · rw [has_put_other (by intro e; injection e with e; exact he e.symm)]
      simp [he]
  · rw [putS_putI] at hx
    rcases putI_mem xs ⟨ps, vs⟩ none hr hp x hx with rfl | ⟨hx, hne⟩
    · exact ⟨p, o, c0, q, r, c1, fun z => atKey_put_same hown.isMap hlit _ z, hsl, hva⟩
    · exact (hC x hx).put hne
set_option maxRecDepth 100000 in
set_option maxHeartbeats 2000000 in
theorem iputA_any (b c n p o c0 q r c1 m k : Nat) (xs : List Ce) (ps : List Sl) (vs : List Va) (w : World) (hx : CeN w (some ⟨b, 0, none⟩) xs) (hn : xs.length = n) (hc : n ≤ c) (hl : n ≤ maxLen)
    (hp : SlL w (some ⟨p, o, none⟩) ps) (hm : ps.length = m) (hl1 : m ≤ maxLen) (hv : VaL w (some ⟨q, r, none⟩) vs) (hk : vs.length = k) (hl2 : k ≤ maxLen) :
    Calls Try.prog 44 #[.slice (some ⟨b, 0, none⟩) n c, .slice (some ⟨p, o, none⟩) m c0, .slice (some ⟨q, r, none⟩) k c1] w (PutA (putV xs ps vs) w) := by
  have HN := Lib.hid hn
  have HM := Lib.hid hm
  have HK := Lib.hid hk
  have HX := Lib.hid hx
  have HP := Lib.hid hp
  have HV := Lib.hid hv
  have HB0 := Lib.hid (Below.refl w.heap.size w)
  obtain ⟨s, hs⟩ : ∃ s, storeB xs = s := ⟨_, rfl⟩
  obtain ⟨t, ht⟩ : ∃ t, placeB ps = t := ⟨_, rfl⟩
  obtain ⟨u, hu⟩ : ∃ u, statesB vs = u := ⟨_, rfl⟩
  have KS := Lib.hid (fun w hx => istore_any (some ⟨b, 0, none⟩) c n xs w hx hn hl)
  have KP := Lib.hid (fun w hx => iplace_n (some ⟨p, o, none⟩) c0 m ps w hx hm hl1)
  have KV := Lib.hid (fun w hx => istates_any (some ⟨q, r, none⟩) c1 k vs w hx hk hl2)
  have HPV := Lib.hid (show putV xs ps vs = if (s && (t && u)) = true then (if (putS xs ⟨ps, vs⟩).length ≤ 200 then some (putS xs ⟨ps, vs⟩) else none) else none by unfold putV; rw [hs, ht, ← hu]; rfl)
  rw [hs] at KS
  rw [ht] at KP
  rw [hu] at KV
  have HS := Lib.hid hs
  have HT := Lib.hid ht
  have HU := Lib.hid hu
  unfold maxLen at hl hl1 hl2
  clear hx hp hv hs ht hu hn hm hk
  go_enter Try.func44, Try.ntmps44
  go_wp2_with fail
  refine (KS.out w HX.out.cel).mono ?_
  rintro e w1 ⟨rfl, hb⟩
  replace HX := Lib.hid (HX.out.below hb)
  replace HP := Lib.hid (HP.out.below hb)
  replace HV := Lib.hid (HV.out.below hb)
  have HB1 := Lib.hid (more HB0.out (Nat.le_refl _) hb)
  clear hb
  cases s
  · have HR := Lib.hid (HPV.out.trans rfl)
    go_wp2_with fail
    go_ret2
    exact ⟨HB1.out, by rw [HR.out]; rfl⟩
  go_wp2_with fail
  refine (KP.out w1 HP.out).mono ?_
  rintro e w2 ⟨rfl, hb⟩
  replace HX := Lib.hid (HX.out.below hb)
  replace HP := Lib.hid (HP.out.below hb)
  replace HV := Lib.hid (HV.out.below hb)
  have HB2 := Lib.hid (more HB1.out (Nat.le_refl _) hb)
  clear hb
  cases t
  · have HR := Lib.hid (HPV.out.trans rfl)
    go_wp2_with fail
    go_ret2
    exact ⟨HB2.out, by rw [HR.out]; rfl⟩
  go_wp2_with fail
  refine (KV.out w2 HV.out).mono ?_
  rintro e w3 ⟨rfl, hb⟩
  replace HX := Lib.hid (HX.out.below hb)
  replace HP := Lib.hid (HP.out.below hb)
  replace HV := Lib.hid (HV.out.below hb)
  have HB3 := Lib.hid (more HB2.out (Nat.le_refl _) hb)
  clear hb
  cases u
  · have HR := Lib.hid (HPV.out.trans (show _ = none by simp))
    go_wp2_with fail
    go_ret2
    exact ⟨HB3.out, by rw [HR.out]; rfl⟩
  have hn200 : n ≤ 200 := by rw [← HN.out]; exact store_len HS.out
  have hm20 : m ≤ 20 := by rw [← HM.out]; exact place_len HT.out
  have hk3 : k ≤ 3 := by rw [← HK.out]; exact states_len HU.out
  have HRS := Lib.hid (show runS none xs = true by have := HS.out; unfold storeB at this; rw [Bool.and_eq_true] at this; exact this.2)
  go_wp2_with fail
  refine (cellsByKey_any (some ⟨b, 0, none⟩) c n xs w3 HX.out HN.out (by omega) HRS.out).mono ?_
  rintro e w4 ⟨bm, nm, D, rfl, hbm, hnm, hown, hD, hC, hb⟩
  rw [HN.out] at hnm
  have HB4 := Lib.hid (more HB3.out (Nat.le_refl _) hb)
  have G4 := Lib.hid hb
  have HO4 := Lib.hid hown
  have HD4 := Lib.hid hD
  have HC4 := Lib.hid hC
  have HX3 := Lib.hid HX.out
  have HP3 := Lib.hid HP.out
  have HV3 := Lib.hid HV.out
  have hz4 := HB4.out.size
  have hz3 := HB3.out.size
  have hy4 := hb.size
  clear hb hown hD hC KS KP KV HX HP HV
  go_wp2_with fail
  refine (keyOf_any (some ⟨p, o, none⟩) c0 m ps w4 (HP3.out.below G4.out) HM.out (by omega) (Fits.of_place HT.out)).mono ?_
  rintro e w5 ⟨rfl, hb⟩
  have HB5 := Lib.hid (more HB4.out (Nat.le_refl _) hb)
  have G5 := Lib.hid (G4.out.trans (hb.mono hy4))
  have HO5 := Lib.hid (HO4.out.kept (Below.keeps hb) (by simp))
  have hz5 := HB5.out.size
  have hy5 := G5.out.size
  have hkl : (keyB ps).length ≤ 1000000 := by rw [keyB_len, HM.out]; omega
  have HKL := Lib.hid hkl
  have HRP := Lib.hid (show runS none (putS xs ⟨ps, vs⟩) = true by rw [putS_putI]; exact putI_ok xs ⟨ps, vs⟩ none HRS.out HT.out HU.out (fun q' e => by cases e))
  obtain ⟨j, hj⟩ : ∃ j, (putS xs ⟨ps, vs⟩).length = j := ⟨_, rfl⟩
  have hj1 : 0 < j := by rw [← hj]; unfold putS; simp only [List.length_append, List.length_singleton]; omega
  have hj2 : j ≤ n + 1 := by rw [← hj, ← HN.out]; exact putS_len xs ⟨ps, vs⟩
  have HJ := Lib.hid hj
  clear hb HO4 hkl hj
  by_cases h200 : j ≤ 200
  · have HR := Lib.hid (HPV.out.trans (show _ = some (putS xs ⟨ps, vs⟩) by rw [HJ.out, if_pos h200]; rfl))
    have h200' : ¬ (200 : Int) < (j : Int) := by omega
    go_wp2_with (first
      | (at_mapUpdate; refine wpList_mapUpdate_own _ rfl _ _ _ 98 rfl 9 60 lawS Try.underlying98 RV bm nm D rfl HO5.out (by unfold maxLen; omega) (.string ⟨(keyB ps).toArray⟩) (.agg #[.slice (some ⟨p, o, none⟩) m c0, .slice (some ⟨q, r, none⟩) k c1]) (.string (keyB ps)) rfl rfl (key_lit (keyB ps) HKL.out) (.held (.agg #[.slice (some ⟨p, o, none⟩) m c0, .slice (some ⟨q, r, none⟩) k c1])) [] rfl ?_; intro w6 ho hgr; have HF := put_facts (c0 := c0) (c1 := c1) HO5.out HD4.out HC4.out HRS.out HT.out HP3.out HV3.out HM.out HK.out; have HSZ := Lib.hid ((size_keys ho HF.1 (keys_rise _ none HRP.out)).trans HJ.out); have HB6 := Lib.hid (HB5.out.grown hgr HB5.out.size (fun i hi => by injection hi with hi; omega)); have G6 := Lib.hid (G5.out.grown hgr G5.out.size (fun i hi => by injection hi with hi; omega)); clear hgr; generalize D.put (.string (keyB ps)) (.held (.agg #[.slice (some ⟨p, o, none⟩) m c0, .slice (some ⟨q, r, none⟩) k c1])) = D6 at HF HSZ ho; have HO6 := Lib.hid ho; have HF6 := Lib.hid HF; clear ho HF)
      | (at_len; refine wpList_len_own _ rfl _ 98 rfl 9 60 Try.underlying98 _ bm (nm + 1) _ rfl HO6.out ?_; rw [HSZ.out]))
    refine (store_any bm (nm + 1) j D6 _ w6 HO6.out HF6.out.1 (fun x hx => (HF6.out.2 x hx).below G6.out) (keys_rise _ none HRP.out) (by omega) HJ.out (by omega) (SmallC.of_run HRP.out)).mono ?_
    rintro e w7 ⟨hb, v, L, rfl, hrow, hsto⟩
    rcases hrow.2 with ⟨_, h0⟩ | ⟨g, cap, cur, rfl, _⟩
    · omega
    · have HB7 := Lib.hid (more HB6.out (Nat.le_refl _) hb)
      have HO7 := Lib.hid (World.ownsRow.mono hrow HB6.out.size)
      have HW7 := Lib.hid (hsto.mono HB6.out.size)
      clear hb hrow hsto
      go_wp2_with fail
      go_ret2
      refine ⟨HB7.out, ?_⟩
      rw [HR.out]
      exact ⟨g, cap, L, by rw [HJ.out]; rfl, by rw [HJ.out]; exact HO7.out, HW7.out⟩
  · have HR := Lib.hid (HPV.out.trans (show _ = none by rw [HJ.out, if_neg h200]; rfl))
    have h200' : (200 : Int) < (j : Int) := by omega
    go_wp2_with (first
      | (at_mapUpdate; refine wpList_mapUpdate_own _ rfl _ _ _ 98 rfl 9 60 lawS Try.underlying98 RV bm nm D rfl HO5.out (by unfold maxLen; omega) (.string ⟨(keyB ps).toArray⟩) (.agg #[.slice (some ⟨p, o, none⟩) m c0, .slice (some ⟨q, r, none⟩) k c1]) (.string (keyB ps)) rfl rfl (key_lit (keyB ps) HKL.out) (.held (.agg #[.slice (some ⟨p, o, none⟩) m c0, .slice (some ⟨q, r, none⟩) k c1])) [] rfl ?_; intro w6 ho hgr; have HF := put_facts (c0 := c0) (c1 := c1) HO5.out HD4.out HC4.out HRS.out HT.out HP3.out HV3.out HM.out HK.out; have HSZ := Lib.hid ((size_keys ho HF.1 (keys_rise _ none HRP.out)).trans HJ.out); have HB6 := Lib.hid (HB5.out.grown hgr HB5.out.size (fun i hi => by injection hi with hi; omega)); have G6 := Lib.hid (G5.out.grown hgr G5.out.size (fun i hi => by injection hi with hi; omega)); clear hgr; generalize D.put (.string (keyB ps)) (.held (.agg #[.slice (some ⟨p, o, none⟩) m c0, .slice (some ⟨q, r, none⟩) k c1])) = D6 at HF HSZ ho; have HO6 := Lib.hid ho; have HF6 := Lib.hid HF; clear ho HF)
      | (at_len; refine wpList_len_own _ rfl _ 98 rfl 9 60 Try.underlying98 _ bm (nm + 1) _ rfl HO6.out ?_; rw [HSZ.out]))
    go_ret2
    exact ⟨HB6.out, by rw [HR.out]; rfl⟩
theorem iput_any (b c n p o c0 q r c1 m k : Nat) (xs : List Ce) (ps : List Sl) (vs : List Va) (w : World) (hx : CeN w (some ⟨b, 0, none⟩) xs) (hn : xs.length = n) (hc : n ≤ c) (hl : n ≤ maxLen)
    (hp : SlL w (some ⟨p, o, none⟩) ps) (hm : ps.length = m) (hl1 : m ≤ maxLen) (hv : VaL w (some ⟨q, r, none⟩) vs) (hk : vs.length = k) (hl2 : k ≤ maxLen) :
    Calls Try.prog 44 #[.slice (some ⟨b, 0, none⟩) n c, .slice (some ⟨p, o, none⟩) m c0, .slice (some ⟨q, r, none⟩) k c1] w (PutX (putV xs ps vs) w) := by
  refine (iputA_any b c n p o c0 q r c1 m k xs ps vs w hx hn hc hl hp hm hl1 hv hk hl2).mono fun e w' h => ?_
  generalize putV xs ps vs = r at h ⊢
  cases r with
  | none => exact h
  | some ys => obtain ⟨h1, b, c, L, h3, h4, h5⟩ := h; exact ⟨h1, b, c, L, h3, h4, h5.toW⟩
end Go.Proofs.Ytfdejmdhcjfboaa
