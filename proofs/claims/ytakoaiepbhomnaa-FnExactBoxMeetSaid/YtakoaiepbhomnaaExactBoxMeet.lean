/- The law FnExactBoxMeet answers true at every two boxes. No conditions. -/
import Derived.Test.YtakoaiepbhomnaaNumL
import Derived.Deep.DeepCutAuto
import Derived.Deep.RegionHeld3
namespace Go.Proofs.Ytakoaiepbhomnaa.fnExactBoxMeet
open Go.Joins Go.ChangeShapes Go.WideShapes Go.ChangeAt Go.RowKit Go.Deep
set_option linter.unusedVariables false
set_option linter.unusedSimpArgs false

set_option maxHeartbeats 8000000 in
theorem walk (al at_ aw ah bl bt bw bh : Int) (w : World) :
    Calls Try.prog 3 #[.agg #[.int .i64 al, .int .i64 at_, .int .i64 aw, .int .i64 ah], .agg #[.int .i64 bl, .int .i64 bt, .int .i64 bw, .int .i64 bh]] w fun e w' => e = .returned (.bool true) ∧ Below w.heap.size w w' := by
  have g1 := fun w => sbm_any al at_ aw ah bl bt bw bh w
  have g2 := fun w => ibm_any al at_ aw ah bl bt bw bh w
  obtain ⟨v0, v1, v2, v3, hv⟩ : ∃ v0 v1 v2 v3 : Int, bmV al at_ aw ah bl bt bw bh = .agg #[.int .i64 v0, .int .i64 v1, .int .i64 v2, .int .i64 v3] := bmV_agg _ _ _ _ _ _ _ _
  simp only [hv] at g1 g2
  have G1 := Lib.hid g1
  have G2 := Lib.hid g2
  clear g1 g2 hv
  have hFF := Lib.hid (show Below w.heap.size w ((w.alloc (.cells #[.int .i64 al, .int .i64 at_, .int .i64 aw, .int .i64 ah] 23)).alloc (.cells #[.int .i64 bl, .int .i64 bt, .int .i64 bw, .int .i64 bh] 23)) by go_grown)
  go_enter Try.func3, Try.ntmps3
  go_upto_region 1 with fail
  go_cut [5] (fun s8 wx => ∃ g : Nat, s8 = .pointer (some ⟨g, 0, none⟩) ∧ w.heap.size + 2 ≤ g ∧ g < wx.heap.size ∧ wx.cell? ⟨g, 0, none⟩ = some (.int .i64 v0) ∧ wx.cell? ⟨g, 1, none⟩ = some (.int .i64 v1) ∧ wx.cell? ⟨g, 2, none⟩ = some (.int .i64 v2) ∧ wx.cell? ⟨g, 3, none⟩ = some (.int .i64 v3) ∧ Below (w.heap.size + 2) ((w.alloc (.cells #[.int .i64 al, .int .i64 at_, .int .i64 aw, .int .i64 ah] 23)).alloc (.cells #[.int .i64 bl, .int .i64 bt, .int .i64 bw, .int .i64 bh] 23)) wx)
  case first =>
    go_region_with (first
      | (go_at_call_of 12 (Value.agg #[.int .i64 al, .int .i64 at_, .int .i64 aw, .int .i64 ah]); refine (toBox_any _ _ _ _ _).mono ?_; rintro e wa ⟨rfl, hb⟩; have hz := hb.size; (try simp at hz); have hG := Below.trans (B := w.heap.size + 2) (a := ((w.alloc (.cells #[.int .i64 al, .int .i64 at_, .int .i64 aw, .int .i64 ah] 23)).alloc (.cells #[.int .i64 bl, .int .i64 bt, .int .i64 bw, .int .i64 bh] 23))) (by go_grown; all_goals first | omega | (simp; omega)) (hb.mono (by first | omega | (simp; done) | (simp; omega))); obtain ⟨hc, hf⟩ := bcell hb; (try simp at hc); (try simp at hf); clear hb; have z0 : w.heap.size < wa.heap.size := (by omega); have z1 : w.heap.size + 1 < wa.heap.size := (by omega); have y0 : w.heap.size ≤ wa.heap.size := (by omega); have y1 : w.heap.size + 1 ≤ wa.heap.size := (by omega); (try have : w.heap.size + 1 + 1 < wa.heap.size := (by omega)); (try have : w.heap.size + 1 + 1 ≤ wa.heap.size := (by omega)))
      | (go_at_call_of 12 (Value.agg #[.int .i64 bl, .int .i64 bt, .int .i64 bw, .int .i64 bh]); refine (toBox_any _ _ _ _ _).mono ?_; rintro e wb ⟨rfl, hb⟩; have hz := hb.size; (try simp at hz); have hG := Below.trans (B := w.heap.size + 2) (a := ((w.alloc (.cells #[.int .i64 al, .int .i64 at_, .int .i64 aw, .int .i64 ah] 23)).alloc (.cells #[.int .i64 bl, .int .i64 bt, .int .i64 bw, .int .i64 bh] 23))) (by go_grown; all_goals first | omega | (simp; omega)) (hb.mono (by first | omega | (simp; done) | (simp; omega))); obtain ⟨hc, hf⟩ := bcell hb; (try simp at hc); (try simp at hf); clear hb; have z0 : w.heap.size < wb.heap.size := (by omega); have z1 : w.heap.size + 1 < wb.heap.size := (by omega); have y0 : w.heap.size ≤ wb.heap.size := (by omega); have y1 : w.heap.size + 1 ≤ wb.heap.size := (by omega); (try have : wa.heap.size < wb.heap.size := (by omega)); (try have : wa.heap.size ≤ wb.heap.size := (by omega)); (try have : w.heap.size + 1 + 1 < wb.heap.size := (by omega)); (try have : w.heap.size + 1 + 1 ≤ wb.heap.size := (by omega)))
      | (go_at_call 11; refine (G1.out _).mono ?_; rintro e wc ⟨rfl, hb⟩; have hz := hb.size; (try simp at hz); have hG := Below.trans (B := w.heap.size + 2) (a := ((w.alloc (.cells #[.int .i64 al, .int .i64 at_, .int .i64 aw, .int .i64 ah] 23)).alloc (.cells #[.int .i64 bl, .int .i64 bt, .int .i64 bw, .int .i64 bh] 23))) (by go_grown; all_goals first | omega | (simp; omega)) (hb.mono (by first | omega | (simp; done) | (simp; omega))); obtain ⟨hc, hf⟩ := bcell hb; (try simp at hc); (try simp at hf); clear hb; have z0 : w.heap.size < wc.heap.size := (by omega); have z1 : w.heap.size + 1 < wc.heap.size := (by omega); have y0 : w.heap.size ≤ wc.heap.size := (by omega); have y1 : w.heap.size + 1 ≤ wc.heap.size := (by omega); (try have : wa.heap.size < wc.heap.size := (by omega)); (try have : wa.heap.size ≤ wc.heap.size := (by omega)); (try have : wb.heap.size < wc.heap.size := (by omega)); (try have : wb.heap.size ≤ wc.heap.size := (by omega)); (try have : w.heap.size + 1 + 1 < wc.heap.size := (by omega)); (try have : w.heap.size + 1 + 1 ≤ wc.heap.size := (by omega))))
    all_goals
      go_wp2_with fail
      go_meet
      refine ⟨_, rfl, by (first | omega | (simp; done) | (simp; omega)), ?_, ?_, ?_, ?_, ?_, by go_grown; all_goals first | omega | (simp; omega)⟩
      all_goals first | go_simp | (simp; done) | (simp; omega)
  case rest =>
    obtain ⟨g, rfl, hg0, hg1, c0, c1, c2, c3, hG⟩ := hcut
    have hg2 : g ≤ wc.heap.size := by omega
    obtain ⟨hc, hf⟩ := bcell hG
    have z0 : w.heap.size < wc.heap.size := by omega
    have z1 : w.heap.size + 1 < wc.heap.size := by omega
    have y0 : w.heap.size ≤ wc.heap.size := by omega
    have y1 : w.heap.size + 1 ≤ wc.heap.size := by omega
    have HC0 := Lib.hid c0
    have HC1 := Lib.hid c1
    have HC2 := Lib.hid c2
    have HC3 := Lib.hid c3
    clear c0 c1 c2 c3
    go_wp2_with fail
    go_cut [6] (fun s9 wx => ∃ h : Nat, s9 = .pointer (some ⟨h, 0, none⟩) ∧ wx.cell? ⟨h, 0, none⟩ = some (.int .i64 v0) ∧ wx.cell? ⟨h, 1, none⟩ = some (.int .i64 v1) ∧ wx.cell? ⟨h, 2, none⟩ = some (.int .i64 v2) ∧ wx.cell? ⟨h, 3, none⟩ = some (.int .i64 v3) ∧ Below wc.heap.size wc wx)
    case first =>
      have hW := Below.refl wc.heap.size wc
      go_region_with (first
        | (go_at_call_of 12 (Value.agg #[.int .i64 al, .int .i64 at_, .int .i64 aw, .int .i64 ah]); refine (toBox_any _ _ _ _ _).mono ?_; rintro e va ⟨rfl, hb⟩; have hz := hb.size; (try simp at hz); have hW := Below.trans (B := wc.heap.size) (a := wc) (by go_grown; all_goals first | omega | (simp; omega)) (hb.mono (by first | omega | (simp; done) | (simp; omega))); obtain ⟨hc, hf⟩ := bcell hb; (try simp at hc); (try simp at hf); clear hb; have z0 : w.heap.size < va.heap.size := (by omega); have z1 : w.heap.size + 1 < va.heap.size := (by omega); have y0 : w.heap.size ≤ va.heap.size := (by omega); have y1 : w.heap.size + 1 ≤ va.heap.size := (by omega); (try have : wc.heap.size < va.heap.size := (by omega)); (try have : wc.heap.size ≤ va.heap.size := (by omega)))
        | (go_at_call_of 12 (Value.agg #[.int .i64 bl, .int .i64 bt, .int .i64 bw, .int .i64 bh]); refine (toBox_any _ _ _ _ _).mono ?_; rintro e vb ⟨rfl, hb⟩; have hz := hb.size; (try simp at hz); have hW := Below.trans (B := wc.heap.size) (a := wc) (by go_grown; all_goals first | omega | (simp; omega)) (hb.mono (by first | omega | (simp; done) | (simp; omega))); obtain ⟨hc, hf⟩ := bcell hb; (try simp at hc); (try simp at hf); clear hb; have z0 : w.heap.size < vb.heap.size := (by omega); have z1 : w.heap.size + 1 < vb.heap.size := (by omega); have y0 : w.heap.size ≤ vb.heap.size := (by omega); have y1 : w.heap.size + 1 ≤ vb.heap.size := (by omega); (try have : wc.heap.size < vb.heap.size := (by omega)); (try have : wc.heap.size ≤ vb.heap.size := (by omega)); (try have : va.heap.size < vb.heap.size := (by omega)); (try have : va.heap.size ≤ vb.heap.size := (by omega)))
        | (go_at_call 13; refine (G2.out _).mono ?_; rintro e vc ⟨rfl, hb⟩; have hz := hb.size; (try simp at hz); have hW := Below.trans (B := wc.heap.size) (a := wc) (by go_grown; all_goals first | omega | (simp; omega)) (hb.mono (by first | omega | (simp; done) | (simp; omega))); obtain ⟨hc, hf⟩ := bcell hb; (try simp at hc); (try simp at hf); clear hb; have z0 : w.heap.size < vc.heap.size := (by omega); have z1 : w.heap.size + 1 < vc.heap.size := (by omega); have y0 : w.heap.size ≤ vc.heap.size := (by omega); have y1 : w.heap.size + 1 ≤ vc.heap.size := (by omega); (try have : wc.heap.size < vc.heap.size := (by omega)); (try have : wc.heap.size ≤ vc.heap.size := (by omega)); (try have : va.heap.size < vc.heap.size := (by omega)); (try have : va.heap.size ≤ vc.heap.size := (by omega)); (try have : vb.heap.size < vc.heap.size := (by omega)); (try have : vb.heap.size ≤ vc.heap.size := (by omega))))
      all_goals
        go_wp2_with fail
        go_meet
        refine ⟨_, rfl, ?_, ?_, ?_, ?_, by go_grown; all_goals first | omega | (simp; omega)⟩
        all_goals first | go_simp | (simp; done) | (simp; omega)
    case rest =>
      obtain ⟨h, rfl, d0, d1, d2, d3, hW⟩ := hcut
      have e0 := (hW.cell (p := ⟨g, 0, none⟩) hg1).trans HC0.out
      have e1 := (hW.cell (p := ⟨g, 1, none⟩) hg1).trans HC1.out
      have e2 := (hW.cell (p := ⟨g, 2, none⟩) hg1).trans HC2.out
      have e3 := (hW.cell (p := ⟨g, 3, none⟩) hg1).trans HC3.out
      have HW := Lib.hid (hFF.out.trans ((hG.trans (hW.mono (by omega))).mono (by omega)))
      clear hW hG hc hf
      go_wp2_with (go_at_call 14; refine (eqBox_same _ _ _ _ _).mono ?_; rintro e vd ⟨rfl, hb⟩)
      go_ret
      exact ⟨rfl, HW.out.trans (hb.mono HW.out.size)⟩

set_option maxRecDepth 100000 in
theorem contract (H : Type) (enc : TypeId × Value → H) (W : World) (base : Nat) (args : Array Value) (ds gs : List (DataW H)) (before : List MemPlace)
    (hval : ∀ (j : Nat) t v, Try.f3.params[j]? = some t → args[j]? = some v → Value.okWide Try.prog W .any base t v)
    (hW : DataW.Whole enc Try.prog Try.f3.params.toList Rows.fnExactBoxMeetSpec.vars false W args.toList ds gs before) :
    Calls Try.prog 3 args W fun e W' => ∃ v, e = .returned v ∧ Rows.fnExactBoxMeetSpec.post enc Try.prog Try.f3 false true false false W args v W' := by
  have hW' := hW
  obtain ⟨p, q, hA0, hV, rfl, hfz, hnd⟩ := hW
  have hA : DataW.TrodAll enc Try.prog W 0 (fun _ => true) true Try.f3.params.toList args.toList ds p := hA0
  rw [Try.params3] at hA hval
  obtain ⟨v0, vs0, d0, ds0, p0, q0, hargs, rfl, rfl, h0, r0⟩ := trodAll_cons hA
  obtain ⟨v1, vs1, d1, ds1, p1, q1, rfl, rfl, rfl, h1, r1⟩ := trodAll_cons r0
  obtain ⟨rfl, rfl, rfl⟩ := trodAll_nil r1
  obtain rfl : args = #[v0, v1] := by cases args; simp_all
  obtain ⟨rfl, rfl⟩ := trodVars_none hV
  obtain ⟨l0, t0, w0, h0', rfl⟩ := open_box (hval 0 _ v0 rfl rfl) h0
  obtain ⟨l1, t1, w1, h1', rfl⟩ := open_box (hval 1 _ v1 rfl rfl) h1
  exact (walk l0 t0 w0 h0' l1 t1 w1 h1' W ).mono fun e W' ⟨he, hB⟩ => ⟨_, he, law_post rfl rfl hW' laidOut (of_decide_eq_true (by kernel_rfl)) rfl Try.underlying4 hB⟩

set_option maxRecDepth 100000 in
theorem lifted (os : Os) (started : os.Started) (H : Type) (enc : TypeId × Value → H) :
    ReturnsInHanded {} Try.checked os 3 .any (Rows.fnExactBoxMeetSpec.pre6 enc Try.prog Try.f3 Rows.fnExactBoxMeetRow.domain false) (Rows.fnExactBoxMeetSpec.post enc Try.prog Try.f3 false true false false) := by
  refine returnsInHanded_of_change (C := Try.checked) own started (by kernel_rfl) Try.func3
    (ChangeSpec.witness6 (enc := enc) (C := Try.checked) false ⟨#[], #[.agg #[.int .i64 0, .int .i64 0, .int .i64 0, .int .i64 0], .agg #[.int .i64 0, .int .i64 0, .int .i64 0, .int .i64 0]], []⟩ 8 (by kernel_rfl) (by kernel_rfl) (by kernel_rfl) (by kernel_rfl)) ?_
  intro W base args ds gs before hval hW _ _
  exact contract H enc W base args ds gs before hval hW

set_option maxRecDepth 100000 in
theorem proved : Rows.FnExactBoxMeetSaid :=
  OpenClaim.holds_of_wide 3 Try.f3 rfl rfl rfl rfl rfl rfl rfl ⟨rfl, rfl, rfl, rfl, rfl⟩ rfl rfl rfl rfl rfl (by kernel_rfl) Try.func3 (by kernel_rfl)
    (of_decide_eq_true (by kernel_rfl)) (by unfold Func.isWrapper; first | (rw [if_pos (by decide +kernel)]; kernel_rfl) | (rw [if_neg (by decide +kernel)]; exact ⟨rfl, rfl⟩))
    (fun os started H enc _ => lifted os started H enc)
end Go.Proofs.Ytakoaiepbhomnaa.fnExactBoxMeet
