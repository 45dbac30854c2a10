/- Trees: the program's TreeOk and TreeSize. -/
import Derived.Test.YtpkhpaioddommaaDoorTre15
namespace Go.Proofs.YtpkhpaioddommaaDoor
open Go.Joins Go.ChangeShapes Go.WideShapes Go.ChangeAt Go.RowKit Go.Deep
set_option linter.unusedVariables false
set_option linter.unusedSimpArgs false

set_option maxHeartbeats 1000000 in
theorem iTreeOk_any (V : World → Prop) (hV : ShOk V) (t : Tr) (hsm : SmT t) (hkw : KwT t) : ∀ (A0 A1 : Option Addr) (c0 c1 : Nat) (w : World), V w → PrL w A0 t.ps → TrL w 0 A1 t.ks →
    Calls Tryd.prog 28 #[.agg #[.int .i64 t.tag, .int .i64 t.key, .string t.text, .slice A0 t.ps.length c0, .slice A1 t.ks.length c1]] w fun e w' => e = .returned (.bool (treeOkB t)) ∧ Below w.heap.size w w' := by
  have hc := icount_any V hV t hsm hkw 1 200
  obtain ⟨v, hv⟩ : ∃ v, treeOkB t = v := ⟨_, rfl⟩
  rw [hv]
  cases v
  · have hq : cpT shownB 1 200 t = none := treeB_no hv
    rw [hq] at hc
    clear hq hv hsm hkw
    intro A0 A1 c0 c1 w hv hp hk; obtain ⟨tag, key, text, ps, ks⟩ := t; dsimp only [Tr.tag, Tr.key, Tr.text, Tr.ps, Tr.ks] at *; generalize ps.length = np at *; generalize ks.length = n at *; have HB0 := Lib.hid (Below.alloc (Below.refl w.heap.size w) (Nat.le_refl _) (.cells #[.int .i64 tag, .int .i64 key, .string text, .slice A0 np c0, .slice A1 n c1] 26)); have HP := Lib.hid (hp.below HB0.out); have HK := Lib.hid (hk.below HB0.out); have HVV := Lib.hid (hV.stays _ _ hv HB0.out); clear hp hk hv
    have HC := Lib.hid (fun w h h2 h3 => hc A0 A1 c0 c1 w h h2 h3 (by omega) (by omega))
    clear hc
    go_enter Tryd.func28, Tryd.ntmps28
    go_wp2_with fail
    refine (HC.out _ HVV.out HP.out HK.out).mono ?_
    rintro e w1 ⟨rfl, hb⟩
    have HB1 := Lib.hid (more HB0.out (Nat.le_refl _) hb)
    clear hb
    dsimp only [cpV]
    go_wp2_with fail
    go_ret
    exact ⟨rfl, HB1.out⟩
  · obtain ⟨hq, _, _⟩ := treeB_yes (show treeB shownB t = true from hv)
    rw [hq] at hc
    clear hq hv hsm hkw
    generalize tsT 1 t = u at hc
    intro A0 A1 c0 c1 w hv hp hk; obtain ⟨tag, key, text, ps, ks⟩ := t; dsimp only [Tr.tag, Tr.key, Tr.text, Tr.ps, Tr.ks] at *; generalize ps.length = np at *; generalize ks.length = n at *; have HB0 := Lib.hid (Below.alloc (Below.refl w.heap.size w) (Nat.le_refl _) (.cells #[.int .i64 tag, .int .i64 key, .string text, .slice A0 np c0, .slice A1 n c1] 26)); have HP := Lib.hid (hp.below HB0.out); have HK := Lib.hid (hk.below HB0.out); have HVV := Lib.hid (hV.stays _ _ hv HB0.out); clear hp hk hv
    have HC := Lib.hid (fun w h h2 h3 => hc A0 A1 c0 c1 w h h2 h3 (by omega) (by omega))
    clear hc
    go_enter Tryd.func28, Tryd.ntmps28
    go_wp2_with fail
    refine (HC.out _ HVV.out HP.out HK.out).mono ?_
    rintro e w1 ⟨rfl, hb⟩
    have HB1 := Lib.hid (more HB0.out (Nat.le_refl _) hb)
    clear hb
    dsimp only [cpV]
    go_wp2_with fail
    go_ret
    exact ⟨rfl, HB1.out⟩
set_option maxHeartbeats 1000000 in
theorem iTreeSize_any (V : World → Prop) (hV : ShOk V) (t : Tr) (hsm : SmT t) (hkw : KwT t) : ∀ (A0 A1 : Option Addr) (c0 c1 : Nat) (w : World), V w → PrL w A0 t.ps → TrL w 0 A1 t.ks →
    Calls Tryd.prog 16 #[.agg #[.int .i64 t.tag, .int .i64 t.key, .string t.text, .slice A0 t.ps.length c0, .slice A1 t.ks.length c1]] w fun e w' => e = .returned (.int .i64 (treeSizeV t)) ∧ Below w.heap.size w w' := by
  have hc := icount_any V hV t hsm hkw 1 200
  obtain ⟨v, hv⟩ : ∃ v, treeOkB t = v := ⟨_, rfl⟩
  cases v
  · have hq : cpT shownB 1 200 t = none := treeB_no hv
    have hr : treeSizeV t = -1 := by unfold treeSizeV; rw [hv]; rfl
    rw [hq] at hc
    rw [hr]
    clear hq hv hsm hkw hr
    intro A0 A1 c0 c1 w hv hp hk; obtain ⟨tag, key, text, ps, ks⟩ := t; dsimp only [Tr.tag, Tr.key, Tr.text, Tr.ps, Tr.ks] at *; generalize ps.length = np at *; generalize ks.length = n at *; have HB0 := Lib.hid (Below.alloc (Below.refl w.heap.size w) (Nat.le_refl _) (.cells #[.int .i64 tag, .int .i64 key, .string text, .slice A0 np c0, .slice A1 n c1] 26)); have HP := Lib.hid (hp.below HB0.out); have HK := Lib.hid (hk.below HB0.out); have HVV := Lib.hid (hV.stays _ _ hv HB0.out); clear hp hk hv
    have HC := Lib.hid (fun w h h2 h3 => hc A0 A1 c0 c1 w h h2 h3 (by omega) (by omega))
    clear hc
    go_enter Tryd.func16, Tryd.ntmps16
    go_wp2_with fail
    refine (HC.out _ HVV.out HP.out HK.out).mono ?_
    rintro e w1 ⟨rfl, hb⟩
    have HB1 := Lib.hid (more HB0.out (Nat.le_refl _) hb)
    clear hb
    dsimp only [cpV]
    go_wp2_with fail
    go_ret
    exact ⟨rfl, HB1.out⟩
  · obtain ⟨hq, _, _⟩ := treeB_yes (show treeB shownB t = true from hv)
    have hr : treeSizeV t = (tsT 1 t : Nat) := by unfold treeSizeV; rw [if_pos hv]
    rw [hq] at hc
    rw [hr]
    clear hq hv hsm hkw hr
    generalize tsT 1 t = u at hc ⊢
    intro A0 A1 c0 c1 w hv hp hk; obtain ⟨tag, key, text, ps, ks⟩ := t; dsimp only [Tr.tag, Tr.key, Tr.text, Tr.ps, Tr.ks] at *; generalize ps.length = np at *; generalize ks.length = n at *; have HB0 := Lib.hid (Below.alloc (Below.refl w.heap.size w) (Nat.le_refl _) (.cells #[.int .i64 tag, .int .i64 key, .string text, .slice A0 np c0, .slice A1 n c1] 26)); have HP := Lib.hid (hp.below HB0.out); have HK := Lib.hid (hk.below HB0.out); have HVV := Lib.hid (hV.stays _ _ hv HB0.out); clear hp hk hv
    have HC := Lib.hid (fun w h h2 h3 => hc A0 A1 c0 c1 w h h2 h3 (by omega) (by omega))
    clear hc
    go_enter Tryd.func16, Tryd.ntmps16
    go_wp2_with fail
    refine (HC.out _ HVV.out HP.out HK.out).mono ?_
    rintro e w1 ⟨rfl, hb⟩
    have HB1 := Lib.hid (more HB0.out (Nat.le_refl _) hb)
    clear hb
    dsimp only [cpV]
    go_wp2_with fail
    go_ret
    exact ⟨rfl, HB1.out⟩
end Go.Proofs.YtpkhpaioddommaaDoor
