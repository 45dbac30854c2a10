/- Trees: which are valid, by the document's own text. -/
import Derived.Test.YtcpfjlbicofkeaaDoorTre9
namespace Go.Proofs.YtcpfjlbicofkeaaDoor
open Go.Joins Go.ChangeShapes Go.WideShapes Go.ChangeAt Go.RowKit Go.Deep
set_option linter.unusedVariables false
set_option linter.unusedSimpArgs false

theorem vpT_text {t : Tr} (h : t.tag = -1) : vpT shownB t = (decide (t.key = -1) && (shownB t.text && (t.ps.isEmpty && t.ks.isEmpty)) && vpL shownB t.ks) := by
  rw [vpT_eq]; unfold partB; rw [if_pos h]
theorem vpT_elem {t : Tr} (h : ¬ t.tag = -1) : vpT shownB t = (decide (0 ≤ t.tag ∧ t.tag ≤ 4) && (decide (-1 ≤ t.key ∧ t.key ≤ 99) && (t.text.toList.isEmpty && (runP none t.ps && apartK [] (keysOf t.ks)))) && vpL shownB t.ks) := by
  rw [vpT_eq]; unfold partB; rw [if_neg h]
theorem vpL_cons (x : Tr) (xs : List Tr) : vpL shownB (x :: xs) = (vpT shownB x && vpL shownB xs) := by simp only [vpL]
def TvC (t : Tr) : Prop := ∀ (A0 A1 : Option Addr) (c0 c1 : Nat) (w : World), PrL w A0 t.ps → TrL w 0 A1 t.ks →
  Calls Tryd.prog 40 #[.agg #[.int .i64 t.tag, .int .i64 t.key, .string t.text, .slice A0 t.ps.length c0, .slice A1 t.ks.length c1]] w fun e w' => e = .returned (.bool (vpT shownB t)) ∧ Below w.heap.size w w'
set_option maxRecDepth 100000 in
set_option maxHeartbeats 2000000 in
theorem svalidPart_any (t : Tr) : SmT t → TvC t := by
  induction t using Tr.by_kids with
  | h t ih =>
  intro hsm A0 A1 c0 c1 w hp hk
  obtain ⟨s0, s1, s2, s3, s4⟩ := hsm.open_
  have HI := Lib.hid (fun x hx A0 A1 c0 c1 w hw hk => ih x hx (s4 x hx) A0 A1 c0 c1 w hw hk)
  have HB0 := Lib.hid (Below.alloc (Below.refl w.heap.size w) (Nat.le_refl _) (.cells #[.int .i64 t.tag, .int .i64 t.key, .string t.text, .slice A0 t.ps.length c0, .slice A1 t.ks.length c1] 33))
  have HK := Lib.hid hk
  have HP := Lib.hid (hp.below HB0.out)
  have K3 := Lib.hid (fun w h => vprops_any A0 c0 t.ps.length t.ps w h rfl s1)
  have K5 := Lib.hid (fun w h => skeys_any A1 c1 t.ks.length t.ks w h rfl s3)
  have htx := @vpT_text t
  have hel := @vpT_elem t
  unfold maxLen at s1 s3
  clear hk hp ih s0 s2 s4 hsm
  obtain ⟨tag, key, text, ps, ks⟩ := t
  dsimp only [Tr.tag, Tr.key, Tr.text, Tr.ps, Tr.ks] at *
  obtain ⟨v, hv⟩ : ∃ v, vpT shownB (.mk tag key text ps ks) = v := ⟨_, rfl⟩
  rw [hv] at htx hel ⊢
  clear hv
  obtain ⟨np, hnp⟩ : ∃ n, ps.length = n := ⟨_, rfl⟩
  obtain ⟨n, hn⟩ : ∃ n, ks.length = n := ⟨_, rfl⟩
  rw [hnp] at s1 HB0 HP K3 ⊢
  rw [hn] at s3 HB0 HP K5 ⊢
  have HN := Lib.hid hn
  have HNP := Lib.hid hnp
  clear hn hnp
  by_cases ht : tag = -1
  · have HV := Lib.hid (htx ht)
    have hd : (tag == -1) = true := by rw [ht]; rfl
    clear htx hel ht
    by_cases hk : key = -1
    case neg =>
      have hd1 : (key == -1) = false := by simpa using hk
      have HF := Lib.hid (show v = false by rw [HV.out]; simp [hk])
      clear hk
      go_enter Tryd.func40, Tryd.ntmps40
      go_wp2_with (go_at_call 57; refine (sshown_any _ _).mono ?_; rintro e w' ⟨rfl, rfl⟩)
      go_ret
      exact ⟨ret_bool HF.out.symm, HB0.out⟩
    have hd1 : (key == -1) = true := by simpa using hk
    by_cases hp0 : np = 0
    case neg =>
      have hd2 : ((np : Int) == 0) = false := by rw [beq_eq_false_iff_ne]; omega
      have HF := Lib.hid (show v = false by
        have h : ps.isEmpty = false := by cases ps with | nil => exact absurd HNP.out.symm (by simpa using hp0) | cons => rfl
        rw [HV.out, h]; simp)
      clear hk hp0
      go_enter Tryd.func40, Tryd.ntmps40
      go_wp2_with (go_at_call 57; refine (sshown_any _ _).mono ?_; rintro e w' ⟨rfl, rfl⟩)
      go_ret
      exact ⟨ret_bool HF.out.symm, HB0.out⟩
    have hd2 : ((np : Int) == 0) = true := by rw [hp0]; rfl
    by_cases hk0 : n = 0
    case neg =>
      have hd3 : ((n : Int) == 0) = false := by rw [beq_eq_false_iff_ne]; omega
      have HF := Lib.hid (show v = false by
        have h : ks.isEmpty = false := by cases ks with | nil => exact absurd HN.out.symm (by simpa using hk0) | cons => rfl
        rw [HV.out, h]; simp)
      clear hk hp0 hk0
      go_enter Tryd.func40, Tryd.ntmps40
      go_wp2_with (go_at_call 57; refine (sshown_any _ _).mono ?_; rintro e w' ⟨rfl, rfl⟩)
      go_ret
      exact ⟨ret_bool HF.out.symm, HB0.out⟩
    have hd3 : ((n : Int) == 0) = true := by rw [hk0]; rfl
    have HF := Lib.hid (show v = shownB text by
      have h1 : ps = [] := List.eq_nil_of_length_eq_zero (by rw [HNP.out]; exact hp0)
      have h2 : ks = [] := List.eq_nil_of_length_eq_zero (by rw [HN.out]; exact hk0)
      rw [HV.out, hk, h1, h2]; simp [vpL])
    clear hk hp0 hk0
    go_enter Tryd.func40, Tryd.ntmps40
    go_wp2_with (go_at_call 57; refine (sshown_any _ _).mono ?_; rintro e w' ⟨rfl, rfl⟩)
    go_ret
    exact ⟨ret_bool HF.out.symm, HB0.out⟩
  have hv : v = (decide (0 ≤ tag ∧ tag ≤ 4) && (decide (-1 ≤ key ∧ key ≤ 99) && (text.toList.isEmpty && (runP none ps && apartK [] (keysOf ks)))) && vpL shownB ks) := hel ht
  have hd : (tag == -1) = false := by simpa using ht
  have k1 := fun w => inRange_any tag 0 4 w
  have k2 := fun w => inRange_any key (-1) 99 w
  clear htx hel ht
  generalize decide (0 ≤ tag ∧ tag ≤ 4) = b1 at k1 hv
  generalize decide (-1 ≤ key ∧ key ≤ 99) = b2 at k2 hv
  have K1 := Lib.hid k1
  have K2 := Lib.hid k2
  clear k1 k2
  cases b1
  · have HF := Lib.hid (show v = false by rw [hv]; rfl)
    clear hv
    go_enter Tryd.func40, Tryd.ntmps40
    go_wp2_with (first | (go_at_call 41; ((with_reducible refine (K1.out _).mono ?_); rintro e w' ⟨rfl, rfl⟩)) | (go_at_call 41; ((with_reducible refine (K2.out _).mono ?_); rintro e w' ⟨rfl, rfl⟩)))
    go_ret
    exact ⟨ret_bool HF.out.symm, HB0.out⟩
  cases b2
  · have HF := Lib.hid (show v = false by rw [hv]; rfl)
    clear hv
    go_enter Tryd.func40, Tryd.ntmps40
    go_wp2_with (first | (go_at_call 41; ((with_reducible refine (K1.out _).mono ?_); rintro e w' ⟨rfl, rfl⟩)) | (go_at_call 41; ((with_reducible refine (K2.out _).mono ?_); rintro e w' ⟨rfl, rfl⟩)))
    go_ret
    exact ⟨ret_bool HF.out.symm, HB0.out⟩
  by_cases hte : text.toList = []
  case neg =>
    have hte2 : text.toList.isEmpty = false := by cases h : text.toList with | nil => exact absurd h hte | cons => rfl
    have HF := Lib.hid (show v = false by rw [hv, hte2]; rfl)
    have hd4 : (text.toList != []) = true := by simpa using hte
    have hd5 : (text.toList == []) = false := by simpa using hte
    clear hv hte
    go_enter Tryd.func40, Tryd.ntmps40
    go_wp2_with (first | (go_at_call 41; ((with_reducible refine (K1.out _).mono ?_); rintro e w' ⟨rfl, rfl⟩)) | (go_at_call 41; ((with_reducible refine (K2.out _).mono ?_); rintro e w' ⟨rfl, rfl⟩)))
    go_ret
    exact ⟨ret_bool HF.out.symm, HB0.out⟩
  have hte2 : text.toList.isEmpty = true := by rw [hte]; rfl
  have hd4 : (text.toList != []) = false := by rw [hte]; rfl
  have hd5 : (text.toList == []) = true := by rw [hte]; rfl
  rw [hte2] at hv
  clear hte hte2
  cases hr : runP none ps
  · rw [hr] at hv K3
    have HF := Lib.hid (show v = false by rw [hv]; rfl)
    clear hv hr
    go_enter Tryd.func40, Tryd.ntmps40
    go_wp2_with (first | (go_at_call 41; ((with_reducible refine (K1.out _).mono ?_); rintro e w' ⟨rfl, rfl⟩)) | (go_at_call 41; ((with_reducible refine (K2.out _).mono ?_); rintro e w' ⟨rfl, rfl⟩)))
    refine (K3.out _ HP.out).mono ?_
    rintro e w1 ⟨rfl, hb⟩
    have HB1 := Lib.hid (more HB0.out (Nat.le_refl _) hb)
    clear hb
    go_wp2_with fail
    go_ret
    exact ⟨ret_bool HF.out.symm, HB1.out⟩
  rw [hr] at hv K3
  have HV := Lib.hid (show v = (apartK [] (keysOf ks) && vpL shownB ks) by rw [hv]; simp)
  clear hv hr
  go_enter Tryd.func40, Tryd.ntmps40
  go_wp2_with (first | (go_at_call 41; ((with_reducible refine (K1.out _).mono ?_); rintro e w' ⟨rfl, rfl⟩)) | (go_at_call 41; ((with_reducible refine (K2.out _).mono ?_); rintro e w' ⟨rfl, rfl⟩)))
  refine (K3.out _ HP.out).mono ?_
  rintro e w1 ⟨rfl, hb⟩
  have HB1 := Lib.hid (more HB0.out (Nat.le_refl _) hb)
  have hc4 := (hb.cell (p := ⟨w.heap.size, 4, none⟩) (by simp)).trans (by rw [World.cell?_alloc_new]; rfl : _ = some (.slice A1 n c1))
  have hz1 : w.heap.size < w1.heap.size := by have := hb.size; simp at this; omega
  clear hb
  go_wp2_with fail
  go_loopw [3] (fun i wr => ∃ k : Nat, k ≤ n ∧ i = .int .i64 k ∧ Hid (vpL shownB ks = vpL shownB (ks.drop k)) ∧ wr.cell? ⟨w.heap.size, 4, none⟩ = some (.slice A1 n c1) ∧ w.heap.size < wr.heap.size ∧ Hid (Below w.heap.size w wr)) (fun i _ => n - (intOf i).toNat)
  case atStart => exact ⟨0, by omega, rfl, Lib.hid rfl, hc4, hz1, HB1⟩
  case round =>
    clear hc4 hz1 HB1
    obtain ⟨k, hk, rfl, HQ, hc4, hsz, HB⟩ := hrel
    by_cases hlt : k < n
    · obtain ⟨x, hx⟩ := at_some (show k < ks.length by rw [HN.out]; exact hlt)
      have hdc := drop_cons hx
      obtain ⟨b, off, B0, d0, B1, d1, rfl, hblt, _, e0, e1, e2, e3, e4, hp, _, hks⟩ := (HK.out.below HB.out).at_ hx
      have hs := HI.out x (List.mem_of_getElem? hx) B0 B1 d0 d1 wr hp hks
      have HQ2 := Lib.hid (HQ.out.trans (by rw [hdc, vpL_cons]) : vpL shownB ks = (vpT shownB x && vpL shownB (ks.drop (k + 1))))
      obtain ⟨u, hu⟩ : ∃ u, vpT shownB x = u := ⟨_, rfl⟩
      rw [hu] at hs HQ2
      have HS1 := Lib.hid hs
      clear hs hx hdc hp hks hu
      obtain ⟨xt, xk, xs, xp, xq⟩ := x
      dsimp only [Tr.tag, Tr.key, Tr.text, Tr.ps, Tr.ks] at e0 e1 e2 e3 e4 HS1
      cases u
      · have HF := Lib.hid (show v = false by rw [HV.out, HQ2.out]; simp)
        go_wp2_with fail
        refine HS1.out.mono ?_
        rintro e w2 ⟨rfl, hb⟩
        have HB2 := Lib.hid (more HB.out (Nat.le_refl _) hb)
        clear hb
        go_wp2_with fail
        go_ret
        exact ⟨ret_bool HF.out.symm, HB2.out⟩
      · have HQ3 := Lib.hid (HQ2.out.trans (Bool.true_and _))
        go_wp2_with fail
        refine HS1.out.mono ?_
        rintro e w2 ⟨rfl, hb⟩
        have HB2 := Lib.hid (more HB.out (Nat.le_refl _) hb)
        have hsz2 := hb.size
        replace hc4 := (hb.cell (p := ⟨w.heap.size, 4, none⟩) hsz).trans hc4
        clear hb
        go_wp2_with fail
        go_roundw
        case rel => exact ⟨k + 1, by omega, by go_num, HQ3, hc4, by omega, HB2⟩
        case measure => simp [intOf]; omega
    · have HF := Lib.hid (show v = apartK [] (keysOf ks) by rw [HV.out, HQ.out, drop_none (by rw [HN.out]; omega)]; simp [vpL])
      go_wp2_with fail
      refine (K5.out _ (HK.out.below HB.out)).mono ?_
      rintro e w2 ⟨rfl, hb⟩
      have HB2 := Lib.hid (more HB.out (Nat.le_refl _) hb)
      clear hb
      go_wp2_with fail
      go_ret
      exact ⟨ret_bool HF.out.symm, HB2.out⟩
end Go.Proofs.YtcpfjlbicofkeaaDoor
