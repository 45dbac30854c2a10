/- Trees: whether a part is valid, by the program. -/
import Derived.Test.YtpkhpaioddommaaDoorTre11
import Derived.Test.YtpkhpaioddommaaDoorTre12
import Derived.Test.YtpkhpaioddommaaDoorTre13
namespace Go.Proofs.YtpkhpaioddommaaDoor
open Go.Joins Go.ChangeShapes Go.WideShapes Go.ChangeAt Go.RowKit Go.Deep
set_option linter.unusedVariables false
set_option linter.unusedSimpArgs false

/-- Where V holds the program tells shown texts; V stays. -/
structure ShOk (V : World → Prop) : Prop where
  stays : ∀ w w', V w → Below w.heap.size w w' → V w'
  shown : ∀ (s : ByteArray) (w : World), s.size ≤ 281474976710656 → V w → Calls Tryd.prog 99 #[.string s] w fun e w' => e = .returned (.bool (shownB s)) ∧ Below w.heap.size w w'
set_option maxHeartbeats 400000 in
theorem upTo_any (n m : Int) (w : World) : Calls Tryd.prog 51 #[.int .i64 n, .int .i64 m] w fun e w' => e = .returned (.bool (decide (0 ≤ n ∧ n ≤ m))) ∧ w = w' := by
  by_cases h1 : 0 ≤ n <;> by_cases h2 : n ≤ m
  all_goals
    go_enter Tryd.func51, Tryd.ntmps51
    go_wp2
    go_ret
    refine ⟨ret_bool ?_, rfl⟩
    simp [*]
set_option maxHeartbeats 400000 in
theorem keyOk_any (n : Int) (w : World) : Calls Tryd.prog 100 #[.int .i64 n] w fun e w' => e = .returned (.bool (decide (-1 ≤ n ∧ n ≤ 99))) ∧ w = w' := by
  have k := fun w => upTo_any n 99 w
  obtain ⟨b, hb⟩ : ∃ b, decide (0 ≤ n ∧ n ≤ 99) = b := ⟨_, rfl⟩
  rw [hb] at k
  have HBB := Lib.hid hb
  have K := Lib.hid k
  clear hb k
  by_cases h : n = -1
  · have hd : (n == -1) = true := by simpa using h
    have HV := Lib.hid (show decide (-1 ≤ n ∧ n ≤ 99) = true from decide_eq_true (by omega))
    clear h
    go_enter Tryd.func100, Tryd.ntmps100
    go_wp2_with (go_at_call 51; ((with_reducible refine (K.out _).mono ?_); rintro e w' ⟨rfl, rfl⟩))
    go_ret
    exact ⟨ret_bool HV.out.symm, rfl⟩
  · have hd : (n == -1) = false := by simpa using h
    have HV := Lib.hid (show decide (-1 ≤ n ∧ n ≤ 99) = b by rw [← HBB.out]; congr 1; apply propext; constructor <;> intro h2 <;> omega)
    clear h
    go_enter Tryd.func100, Tryd.ntmps100
    go_wp2_with (go_at_call 51; ((with_reducible refine (K.out _).mono ?_); rintro e w' ⟨rfl, rfl⟩))
    go_ret
    exact ⟨ret_bool HV.out.symm, rfl⟩
theorem partB_text {t : Tr} (h : t.tag = -1) : partB shownB t = (decide (t.key = -1) && (shownB t.text && (t.ps.isEmpty && t.ks.isEmpty))) := by
  unfold partB; rw [if_pos h]
theorem partB_elem {t : Tr} (h : ¬ t.tag = -1) : partB shownB t = (decide (0 ≤ t.tag ∧ t.tag ≤ 4) && (decide (-1 ≤ t.key ∧ t.key ≤ 99) && (t.text.toList.isEmpty && (runP none t.ps && apartK [] (keysOf t.ks))))) := by
  unfold partB; rw [if_neg h]
set_option maxRecDepth 100000 in
set_option maxHeartbeats 2000000 in
theorem ipartOk_any (V : World → Prop) (hV : ShOk V) (t : Tr) (hsm : SmT t) (hw : ∀ x ∈ t.ks, (Lit.int .i64 x.key).wf = true) (hl : t.ks.length ≤ 1000000) (h48 : t.text.size ≤ 281474976710656) : ∀ (A0 A1 : Option Addr) (c0 c1 : Nat) (w : World), V w → PrL w A0 t.ps → TrL w 0 A1 t.ks →
    Calls Tryd.prog 79 #[.agg #[.int .i64 t.tag, .int .i64 t.key, .string t.text, .slice A0 t.ps.length c0, .slice A1 t.ks.length c1]] w fun e w' => e = .returned (.bool (partB shownB t)) ∧ Below w.heap.size w w' := by
  intro A0 A1 c0 c1 w hv0 hp hk
  obtain ⟨s0, s1, s2, s3, s4⟩ := hsm.open_
  have HB0 := Lib.hid (Below.alloc (Below.refl w.heap.size w) (Nat.le_refl _) (.cells #[.int .i64 t.tag, .int .i64 t.key, .string t.text, .slice A0 t.ps.length c0, .slice A1 t.ks.length c1] 26))
  have HK := Lib.hid (hk.below HB0.out)
  have HP := Lib.hid (hp.below HB0.out)
  have HVV := Lib.hid (hV.stays _ _ hv0 HB0.out)
  have KS := Lib.hid (fun w h => hV.shown t.text w h48 h)
  have K3 := Lib.hid (fun w h => ipropsOk_any A0 c0 t.ps.length t.ps w h rfl s1)
  have K5 := Lib.hid (fun w h => idiffer_any A1 c1 t.ks.length t.ks w h rfl hl hw)
  have htx := @partB_text t
  have hel := @partB_elem t
  unfold maxLen at s1 s3
  clear hk hp s0 s2 s4 hsm hw hl hv0 h48
  obtain ⟨tag, key, text, ps, ks⟩ := t
  dsimp only [Tr.tag, Tr.key, Tr.text, Tr.ps, Tr.ks] at *
  obtain ⟨v, hv⟩ : ∃ v, partB shownB (.mk tag key text ps ks) = v := ⟨_, rfl⟩
  rw [hv] at htx hel ⊢
  clear hv
  obtain ⟨np, hnp⟩ : ∃ n, ps.length = n := ⟨_, rfl⟩
  obtain ⟨n, hn⟩ : ∃ n, ks.length = n := ⟨_, rfl⟩
  rw [hnp] at s1 HB0 HP HK HVV K3 ⊢
  rw [hn] at s3 HB0 HP HK HVV K5 ⊢
  have HN := Lib.hid hn
  have HNP := Lib.hid hnp
  clear hn hnp
  by_cases ht : tag = -1
  · have hv : v = (decide (key = -1) && (shownB text && (ps.isEmpty && ks.isEmpty))) := htx ht
    have hd : (tag == -1) = true := by rw [ht]; rfl
    clear htx hel ht
    by_cases hk : key = -1
    case neg =>
      have hd1 : (key == -1) = false := by simpa using hk
      have HF := Lib.hid (show v = false by rw [hv]; simp [hk])
      clear hk hv
      go_enter Tryd.func79, Tryd.ntmps79
      go_wp2_with fail
      go_ret
      exact ⟨ret_bool HF.out.symm, HB0.out⟩
    have hd1 : (key == -1) = true := by simpa using hk
    obtain ⟨u, hu⟩ : ∃ u, shownB text = u := ⟨_, rfl⟩
    rw [hu] at KS hv
    have HV := Lib.hid (show v = (u && (ps.isEmpty && ks.isEmpty)) by rw [hv, hk]; simp)
    clear hk hv hu
    have hpe : ps.isEmpty = decide (np = 0) := by rw [← HNP.out]; cases ps <;> simp
    have hke : ks.isEmpty = decide (n = 0) := by rw [← HN.out]; cases ks <;> simp
    rw [hpe, hke] at HV
    clear hpe hke
    cases u
    · have HF := Lib.hid (show v = false by rw [HV.out]; rfl)
      go_enter Tryd.func79, Tryd.ntmps79
      go_wp2_with fail
      refine (KS.out _ HVV.out).mono ?_
      rintro e w1 ⟨rfl, hb⟩
      have HB1 := Lib.hid (more HB0.out (Nat.le_refl _) hb)
      obtain ⟨hc, hf⟩ := bcell hb; simp at hc hf; have hz := hb.size; simp at hz
      clear hb
      go_wp2_with fail
      go_ret
      exact ⟨ret_bool HF.out.symm, HB1.out⟩
    by_cases hp0 : np = 0
    case neg =>
      have hd2 : ((np : Int) == 0) = false := by rw [beq_eq_false_iff_ne]; omega
      have HF := Lib.hid (show v = false by rw [HV.out, decide_eq_false hp0]; rfl)
      clear hp0
      go_enter Tryd.func79, Tryd.ntmps79
      go_wp2_with fail
      refine (KS.out _ HVV.out).mono ?_
      rintro e w1 ⟨rfl, hb⟩
      have HB1 := Lib.hid (more HB0.out (Nat.le_refl _) hb)
      obtain ⟨hc, hf⟩ := bcell hb; simp at hc hf; have hz := hb.size; simp at hz
      clear hb
      go_wp2_with fail
      go_ret
      exact ⟨ret_bool HF.out.symm, HB1.out⟩
    have hd2 : ((np : Int) == 0) = true := by rw [hp0]; rfl
    obtain ⟨r, hr⟩ : ∃ r, ((n : Int) == 0) = r := ⟨_, rfl⟩
    have HF := Lib.hid (show v = r by
      rw [HV.out, decide_eq_true hp0, ← hr, Bool.true_and, Bool.true_and]
      by_cases h : n = 0
      · rw [h]; rfl
      · rw [decide_eq_false h]; symm; rw [beq_eq_false_iff_ne]; omega)
    clear hp0
    go_enter Tryd.func79, Tryd.ntmps79
    go_wp2_with fail
    refine (KS.out _ HVV.out).mono ?_
    rintro e w1 ⟨rfl, hb⟩
    have HB1 := Lib.hid (more HB0.out (Nat.le_refl _) hb)
    obtain ⟨hc, hf⟩ := bcell hb; simp at hc hf; have hz := hb.size; simp at hz
    clear hb
    go_wp2_with fail
    go_ret
    exact ⟨ret_bool HF.out.symm, HB1.out⟩
  have hv : v = (decide (0 ≤ tag ∧ tag ≤ 4) && (decide (-1 ≤ key ∧ key ≤ 99) && (text.toList.isEmpty && (runP none ps && apartK [] (keysOf ks))))) := hel ht
  have hd : (tag == -1) = false := by simpa using ht
  have k1 := fun w => upTo_any tag 4 w
  have k2 := fun w => keyOk_any key w
  clear htx hel ht
  generalize decide (0 ≤ tag ∧ tag ≤ 4) = b1 at k1 hv
  generalize decide (-1 ≤ key ∧ key ≤ 99) = b2 at k2 hv
  have K1 := Lib.hid k1
  have K2 := Lib.hid k2
  clear k1 k2
  cases b1
  · have HF := Lib.hid (show v = false by rw [hv]; rfl)
    clear hv
    go_enter Tryd.func79, Tryd.ntmps79
    go_wp2_with (first | (go_at_call 51; ((with_reducible refine (K1.out _).mono ?_); rintro e w' ⟨rfl, rfl⟩)) | (go_at_call 100; ((with_reducible refine (K2.out _).mono ?_); rintro e w' ⟨rfl, rfl⟩)))
    go_ret
    exact ⟨ret_bool HF.out.symm, HB0.out⟩
  cases b2
  · have HF := Lib.hid (show v = false by rw [hv]; rfl)
    clear hv
    go_enter Tryd.func79, Tryd.ntmps79
    go_wp2_with (first | (go_at_call 51; ((with_reducible refine (K1.out _).mono ?_); rintro e w' ⟨rfl, rfl⟩)) | (go_at_call 100; ((with_reducible refine (K2.out _).mono ?_); rintro e w' ⟨rfl, rfl⟩)))
    go_ret
    exact ⟨ret_bool HF.out.symm, HB0.out⟩
  by_cases hte : text.toList = []
  case neg =>
    have hte2 : text.toList.isEmpty = false := by cases h : text.toList with | nil => exact absurd h hte | cons => rfl
    have HF := Lib.hid (show v = false by rw [hv, hte2]; rfl)
    have hd4 : (text.toList != []) = true := by simpa using hte
    have hd5 : (text.toList == []) = false := by simpa using hte
    clear hv hte
    go_enter Tryd.func79, Tryd.ntmps79
    go_wp2_with (first | (go_at_call 51; ((with_reducible refine (K1.out _).mono ?_); rintro e w' ⟨rfl, rfl⟩)) | (go_at_call 100; ((with_reducible refine (K2.out _).mono ?_); rintro e w' ⟨rfl, rfl⟩)))
    go_ret
    exact ⟨ret_bool HF.out.symm, HB0.out⟩
  have hte2 : text.toList.isEmpty = true := by rw [hte]; rfl
  have hd4 : (text.toList != []) = false := by rw [hte]; rfl
  have hd5 : (text.toList == []) = true := by rw [hte]; rfl
  rw [hte2] at hv
  clear hte hte2
  obtain ⟨r, hr⟩ : ∃ r, runP none ps = r := ⟨_, rfl⟩
  obtain ⟨a, ha⟩ : ∃ a, apartK [] (keysOf ks) = a := ⟨_, rfl⟩
  rw [hr, ha] at hv
  rw [hr] at K3
  rw [ha] at K5
  have HV := Lib.hid (show v = (r && a) by rw [hv]; simp)
  clear hv hr ha
  cases r
  · have HF := Lib.hid (show v = false by rw [HV.out]; rfl)
    go_enter Tryd.func79, Tryd.ntmps79
    go_wp2_with (first | (go_at_call 51; ((with_reducible refine (K1.out _).mono ?_); rintro e w' ⟨rfl, rfl⟩)) | (go_at_call 100; ((with_reducible refine (K2.out _).mono ?_); rintro e w' ⟨rfl, rfl⟩)))
    refine (K3.out _ HP.out).mono ?_
    rintro e w1 ⟨rfl, hb⟩
    have HB1 := Lib.hid (more HB0.out (Nat.le_refl _) hb)
    obtain ⟨hc, hf⟩ := bcell hb; simp at hc hf; have hz := hb.size; simp at hz
    clear hb
    go_wp2_with fail
    go_ret
    exact ⟨ret_bool HF.out.symm, HB1.out⟩
  have HF := Lib.hid (show v = a by rw [HV.out]; rfl)
  go_enter Tryd.func79, Tryd.ntmps79
  go_wp2_with (first | (go_at_call 51; ((with_reducible refine (K1.out _).mono ?_); rintro e w' ⟨rfl, rfl⟩)) | (go_at_call 100; ((with_reducible refine (K2.out _).mono ?_); rintro e w' ⟨rfl, rfl⟩)))
  refine (K3.out _ HP.out).mono ?_
  rintro e w1 ⟨rfl, hb⟩
  have HB1 := Lib.hid (more HB0.out (Nat.le_refl _) hb)
  have HK1 := Lib.hid (HK.out.below hb)
  obtain ⟨hc, hf⟩ := bcell hb; simp at hc hf; have hz := hb.size; simp at hz
  clear hb
  go_wp2_with fail
  refine (K5.out _ HK1.out).mono ?_
  rintro e w2 ⟨rfl, hb⟩
  have HB2 := Lib.hid (more HB1.out (Nat.le_refl _) hb)
  clear hb
  go_wp2_with fail
  go_ret
  exact ⟨ret_bool HF.out.symm, HB2.out⟩
end Go.Proofs.YtpkhpaioddommaaDoor
