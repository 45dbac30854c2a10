/- Trees: the document's TreeOk and TreeSize. -/
import Derived.Test.YtcpfjlbicofkeaaDoorTre10
namespace Go.Proofs.YtcpfjlbicofkeaaDoor
open Go.Joins Go.ChangeShapes Go.WideShapes Go.ChangeAt Go.RowKit Go.Deep
set_option linter.unusedVariables false
set_option linter.unusedSimpArgs false

def treeOkB (t : Tr) : Bool := decide (tsT 1 t ≤ 200) && vpT shownB t
set_option maxHeartbeats 1000000 in
theorem svalidTree_any (t : Tr) (hsm : SmT t) : ∀ (A0 A1 : Option Addr) (c0 c1 : Nat) (w : World), PrL w A0 t.ps → TrL w 0 A1 t.ks →
    Calls Tryd.prog 20 #[.agg #[.int .i64 t.tag, .int .i64 t.key, .string t.text, .slice A0 t.ps.length c0, .slice A1 t.ks.length c1]] w fun e w' => e = .returned (.bool (treeOkB t)) ∧ Below w.heap.size w w' := by
  have hs := streeSize_any t hsm 1
  have hv := svalidPart_any t hsm
  unfold TvC at hv
  obtain ⟨u, hu⟩ : ∃ u, tsT 1 t = u := ⟨_, rfl⟩
  obtain ⟨v, hvv⟩ : ∃ v, vpT shownB t = v := ⟨_, rfl⟩
  have HQ := Lib.hid (show treeOkB t = (decide (u ≤ 200) && v) by unfold treeOkB; rw [hu, hvv])
  rw [hu] at hs
  rw [hvv] at hv
  clear hu hvv hsm
  generalize treeOkB t = r at HQ ⊢
  intro A0 A1 c0 c1 w hp hk; obtain ⟨tag, key, text, ps, ks⟩ := t; dsimp only [Tr.tag, Tr.key, Tr.text, Tr.ps, Tr.ks] at *; generalize ps.length = np at *; generalize ks.length = n at *; have HB0 := Lib.hid (Below.alloc (Below.refl w.heap.size w) (Nat.le_refl _) (.cells #[.int .i64 tag, .int .i64 key, .string text, .slice A0 np c0, .slice A1 n c1] 33)); have HP := Lib.hid (hp.below HB0.out); have HK := Lib.hid (hk.below HB0.out); clear hp hk
  have HS := Lib.hid (fun w h => hs A0 A1 c0 c1 w h (by omega))
  have HV := Lib.hid (fun w h h' => hv A0 A1 c0 c1 w h h')
  clear hs hv
  by_cases h200 : u ≤ 200
  · have h200' : (u : Int) ≤ 200 := by omega
    have HR := Lib.hid (HQ.out.trans (by rw [decide_eq_true h200, Bool.true_and]))
    go_enter Tryd.func20, Tryd.ntmps20
    go_wp2_with fail
    refine (HS.out _ HK.out).mono ?_
    rintro e w1 ⟨rfl, hb⟩
    have HB1 := Lib.hid (more HB0.out (Nat.le_refl _) hb)
    have HP1 := Lib.hid (HP.out.below hb)
    have HK1 := Lib.hid (HK.out.below hb)
    obtain ⟨hc, hf⟩ := bcell hb; simp at hc hf; have hz := hb.size; simp at hz
    clear hb
    go_wp2_with fail
    refine (HV.out _ HP1.out HK1.out).mono ?_
    rintro e w2 ⟨rfl, hb⟩
    have HB2 := Lib.hid (more HB1.out (Nat.le_refl _) hb)
    clear hb
    go_wp2_with fail
    go_ret
    exact ⟨ret_bool HR.out.symm, HB2.out⟩
  · have h200' : ¬ (u : Int) ≤ 200 := by omega
    have HR := Lib.hid (HQ.out.trans (by rw [decide_eq_false h200]; rfl : _ = false))
    go_enter Tryd.func20, Tryd.ntmps20
    go_wp2_with fail
    refine (HS.out _ HK.out).mono ?_
    rintro e w1 ⟨rfl, hb⟩
    have HB1 := Lib.hid (more HB0.out (Nat.le_refl _) hb)
    obtain ⟨hc, hf⟩ := bcell hb; simp at hc hf; have hz := hb.size; simp at hz
    clear hb
    go_wp2_with fail
    go_ret
    exact ⟨ret_bool HR.out.symm, HB1.out⟩
def treeSizeV (t : Tr) : Int := if treeOkB t = true then (tsT 1 t : Nat) else -1
end Go.Proofs.YtcpfjlbicofkeaaDoor
