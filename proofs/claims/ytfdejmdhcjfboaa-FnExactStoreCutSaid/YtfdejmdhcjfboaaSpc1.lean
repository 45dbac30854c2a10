/- Stores: what is put and what is cut, in the document's own text. -/
import Derived.Test.YtfdejmdhcjfboaaCpy3
import Derived.Test.YtfdejmdhcjfboaaSto10
namespace Go.Proofs.Ytfdejmdhcjfboaa
open Go.Joins Go.ChangeShapes Go.WideShapes Go.ChangeAt Go.RowKit Go.Deep
set_option linter.unusedVariables false
set_option linter.unusedSimpArgs false

theorem cell_ok : ∀ (xs : List Ce) (q : Option (List Sl)), runS q xs = true → ∀ x ∈ xs, placeB x.pl = true ∧ statesB x.st = true
  | [], _, _, x, hx => by cases hx
  | y :: ys, q, h, x, hx => by
    obtain ⟨⟨h1, h2, _⟩, hr⟩ := runS_cons h
    rcases List.mem_cons.1 hx with rfl | hx
    · exact ⟨h1, h2⟩
    · exact cell_ok ys _ hr x hx
theorem place_len {p : List Sl} (h : placeB p = true) : p.length ≤ 20 := by
  unfold placeB at h
  rw [Bool.and_eq_true] at h
  exact of_decide_eq_true h.1
theorem states_len {xs : List Va} (h : statesB xs = true) : xs.length ≤ 3 := by
  unfold statesB at h
  rw [Bool.and_eq_true] at h
  exact of_decide_eq_true h.1
theorem store_len {xs : List Ce} (h : storeB xs = true) : xs.length ≤ 200 := by
  unfold storeB at h
  rw [Bool.and_eq_true] at h
  exact of_decide_eq_true h.1
theorem SmallC.of_ok {xs : List Ce} (h : storeB xs = true) : SmallC xs := fun x hx => by
  unfold storeB at h
  rw [Bool.and_eq_true] at h
  have := cell_ok xs none h.2 x hx
  have h1 := place_len this.1
  have h2 := states_len this.2
  exact ⟨by omega, by omega⟩
/-- What is answered where a store is handed back, or nothing. -/
def PutX (r : Option (List Ce)) (w : World) (e : Ending) (w' : World) : Prop :=
  Below w.heap.size w w' ∧ match r with
    | none => e = .returned (.tuple #[.slice none 0 0, .bool false])
    | some ys => ∃ b c L, e = .returned (.tuple #[.slice (some ⟨b, 0, none⟩) ys.length c, .bool true]) ∧ OwnC w' w.heap.size b c ys.length L ∧ StoW w' w.heap.size L ys
def putV (xs : List Ce) (p : List Sl) (vs : List Va) : Option (List Ce) :=
  if (storeB xs && (placeB p && (decide (vs.length ≤ 3) && vs.all Va.ok))) = true then (if (putS xs ⟨p, vs⟩).length ≤ 200 then some (putS xs ⟨p, vs⟩) else none) else none

set_option maxHeartbeats 2000000 in
theorem sput_any (b c n p o c0 q r c1 m k : Nat) (xs : List Ce) (ps : List Sl) (vs : List Va) (w : World) (hx : CeN w (some ⟨b, 0, none⟩) xs) (hn : xs.length = n) (hc : n ≤ c) (hl : n ≤ maxLen)
    (hp : SlL w (some ⟨p, o, none⟩) ps) (hm : ps.length = m) (hl1 : m ≤ maxLen) (hv : VaL w (some ⟨q, r, none⟩) vs) (hk : vs.length = k) (hl2 : k ≤ maxLen) :
    Calls Try.prog 42 #[.slice (some ⟨b, 0, none⟩) n c, .slice (some ⟨p, o, none⟩) m c0, .slice (some ⟨q, r, none⟩) k c1] w (PutX (putV xs ps vs) w) := by
  have HN := Lib.hid hn
  have HM := Lib.hid hm
  have HK := Lib.hid hk
  have HX := Lib.hid hx
  have HP := Lib.hid hp
  have HV := Lib.hid hv
  have HB0 := Lib.hid (Below.refl w.heap.size w)
  obtain ⟨s, hs⟩ : ∃ s, storeB xs = s := ⟨_, rfl⟩
  obtain ⟨t, ht⟩ : ∃ t, placeB ps = t := ⟨_, rfl⟩
  obtain ⟨u, hu⟩ : ∃ u, vs.all Va.ok = u := ⟨_, rfl⟩
  have KS := Lib.hid (fun w hx => vstore_any (some ⟨b, 0, none⟩) c n xs w hx hn hl)
  have KP := Lib.hid (fun w hx => vplace_n (some ⟨p, o, none⟩) c0 m ps w hx hm hl1)
  have KV := Lib.hid (fun w hx => vvals_any (some ⟨q, r, none⟩) c1 k vs w hx hk hl2)
  have HPV := Lib.hid (show putV xs ps vs = if (s && (t && (decide (k ≤ 3) && u))) = true then (if (putS xs ⟨ps, vs⟩).length ≤ 200 then some (putS xs ⟨ps, vs⟩) else none) else none by unfold putV; rw [hs, ht, hu, hk])
  rw [hs] at KS
  rw [ht] at KP
  rw [hu] at KV
  have HS := Lib.hid hs
  have HT := Lib.hid ht
  unfold maxLen at hl hl1 hl2
  clear hx hp hv hs ht hu hn hm hk
  go_enter Try.func42, Try.ntmps42
  go_wp2_with fail
  refine (KS.out w HX.out.cel).mono ?_
  rintro e w1 ⟨rfl, hb⟩
  replace HX := Lib.hid (HX.out.below hb)
  replace HP := Lib.hid (HP.out.below hb)
  replace HV := Lib.hid (HV.out.below hb)
  have HB1 := Lib.hid (more HB0.out (Nat.le_refl _) hb)
  clear hb
  cases s
  · have HR := Lib.hid (HPV.out.trans rfl)
    go_wp2_with fail
    go_ret2
    exact ⟨HB1.out, by rw [HR.out]; rfl⟩
  go_wp2_with fail
  refine (KP.out w1 HP.out).mono ?_
  rintro e w2 ⟨rfl, hb⟩
  replace HX := Lib.hid (HX.out.below hb)
  replace HP := Lib.hid (HP.out.below hb)
  replace HV := Lib.hid (HV.out.below hb)
  have HB2 := Lib.hid (more HB1.out (Nat.le_refl _) hb)
  clear hb
  cases t
  · have HR := Lib.hid (HPV.out.trans rfl)
    go_wp2_with fail
    go_ret2
    exact ⟨HB2.out, by rw [HR.out]; rfl⟩
  by_cases hk3 : k ≤ 3
  case neg =>
    have HR := Lib.hid (HPV.out.trans (show _ = none by simp [hk3]))
    go_wp2_with fail
    go_ret2
    exact ⟨HB2.out, by rw [HR.out]; rfl⟩
  go_wp2_with fail
  refine (KV.out w2 HV.out).mono ?_
  rintro e w3 ⟨rfl, hb⟩
  replace HX := Lib.hid (HX.out.below hb)
  replace HP := Lib.hid (HP.out.below hb)
  replace HV := Lib.hid (HV.out.below hb)
  have HB3 := Lib.hid (more HB2.out (Nat.le_refl _) hb)
  clear hb
  cases u
  · have HR := Lib.hid (HPV.out.trans (show _ = none by simp))
    go_wp2_with fail
    go_ret2
    exact ⟨HB3.out, by rw [HR.out]; rfl⟩
  have hn200 : n ≤ 200 := by rw [← HN.out]; exact store_len HS.out
  have hm20 : m ≤ 20 := by rw [← HM.out]; exact place_len HT.out
  have HPU := Lib.hid (put_any b c n p o c0 q r c1 _ _ xs ⟨ps, vs⟩ w3 HX.out HN.out hc (by omega) (SmallC.of_ok HS.out) HP.out HV.out (by show ps.length ≤ 1000; rw [HM.out]; omega) (by show vs.length ≤ 1000; rw [HK.out]; omega) rfl rfl)
  rw [show (Ce.mk ps vs).pl.length = m from HM.out, show (Ce.mk ps vs).st.length = k from HK.out] at HPU
  obtain ⟨j, hj⟩ : ∃ j, (putS xs ⟨ps, vs⟩).length = j := ⟨_, rfl⟩
  go_wp2_with fail
  refine HPU.out.mono ?_
  rintro e w4 ⟨hb, b4, c4, L4, rfl, ho, hw⟩
  rw [hj] at ho ⊢
  have HB4 := Lib.hid (HB3.out.trans (hb.mono HB3.out.size))
  have HO := Lib.hid (World.ownsRow.mono ho HB3.out.size)
  have HW := Lib.hid (hw.mono HB3.out.size)
  have HJ := Lib.hid hj
  clear hb ho hw HPU hj
  by_cases h200 : j ≤ 200
  · have HR := Lib.hid (HPV.out.trans (show _ = some (putS xs ⟨ps, vs⟩) by rw [decide_eq_true hk3, HJ.out, if_pos h200]; rfl))
    go_wp2_with fail
    go_ret2
    refine ⟨HB4.out, ?_⟩
    rw [HR.out]
    exact ⟨b4, c4, L4, by rw [HJ.out]; rfl, by rw [HJ.out]; exact HO.out, HW.out⟩
  · have HR := Lib.hid (HPV.out.trans (show _ = none by rw [decide_eq_true hk3, HJ.out, if_neg h200]; rfl))
    go_wp2_with fail
    go_ret2
    exact ⟨HB4.out, by rw [HR.out]; rfl⟩
end Go.Proofs.Ytfdejmdhcjfboaa
