/- The law FnExactValDo answers true at every operator and every two values, and leaves them as they were. No conditions; the library's table as its text lays it. -/
import Derived.Test.YtdffjldcdlgedaaDoorDo4
import Derived.Test.YtdffjldcdlgedaaDoorTab
import Derived.Deep.DeepCutAuto
namespace Go.Proofs.YtdffjldcdlgedaaDoor.fnExactValDo
open Go.Joins Go.ChangeShapes Go.WideShapes Go.ChangeAt Go.RowKit Go.Deep
set_option linter.unusedVariables false

set_option maxHeartbeats 400000 in
theorem eqValue_same (k n : Int) (s : ByteArray) (w : World) :
    Calls Tryd.prog 23 #[.agg #[.int .i64 k, .int .i64 n, .string s], .agg #[.int .i64 k, .int .i64 n, .string s]] w fun e w' => e = .returned (.bool true) ∧ Below w.heap.size w w' := by
  go_enter Tryd.func23, Tryd.ntmps23
  go_wp2_with fail
  go_ret
  exact ⟨rfl, by go_grown; all_goals first | omega | (simp; omega)⟩

set_option maxHeartbeats 8000000 in
theorem walk (op k1 n1 : Int) (s1 : ByteArray) (k2 n2 : Int) (s2 : ByteArray) (w : World) (hs1 : s1.size ≤ maxLen) (hs2 : s2.size ≤ maxLen) (hT : Tab w) :
    Calls Tryd.prog 8 #[.int .i64 op, .agg #[.int .i64 k1, .int .i64 n1, .string s1], .agg #[.int .i64 k2, .int .i64 n2, .string s2]] w fun e w' => e = .returned (.bool true) ∧ Below w.heap.size w w' := by
  have HT := Lib.hid hT
  clear hT
  have hB := Below.refl (w.heap.size + 2) ((w.alloc (.cells #[.int .i64 k1, .int .i64 n1, .string s1] 32)).alloc (.cells #[.int .i64 k2, .int .i64 n2, .string s2] 32))
  have HB0 := Lib.hid (show w.heap.size + 2 ≤ ((w.alloc (.cells #[.int .i64 k1, .int .i64 n1, .string s1] 32)).alloc (.cells #[.int .i64 k2, .int .i64 n2, .string s2] 32)).heap.size by simp)
  have hF : Below w.heap.size w ((w.alloc (.cells #[.int .i64 k1, .int .i64 n1, .string s1] 32)).alloc (.cells #[.int .i64 k2, .int .i64 n2, .string s2] 32)) := by go_grown
  have z1 := fun w => szValue_any k1 n1 1048576 s1 w (by omega) (by omega) hs1
  by_cases l1 : (1048576 : Int) < s1.size
  · simp only [if_pos l1] at z1
    have Z1 := Lib.hid z1
    clear z1
    go_enter Tryd.func8, Tryd.ntmps8
    go_wp2_with (go_at_call_of 21 (Value.agg #[.int .i64 k1, .int .i64 n1, .string s1]); refine (Z1.out _).mono ?_; rintro e w' ⟨rfl, hb⟩; replace hB := more hB HB0.out hb; obtain ⟨hc, hf⟩ := bcell hB; clear hb)
    go_ret
    exact ⟨rfl, front hF (by omega) hB⟩
  · simp only [if_neg l1] at z1
    have Z1 := Lib.hid z1
    have z2 := fun w => szValue_any k2 n2 (1048576 - s1.size) s2 w (by omega) (by omega) hs2
    clear z1
    by_cases l2 : (1048576 - s1.size : Int) < s2.size
    · simp only [if_pos l2] at z2
      have Z2 := Lib.hid z2
      clear z2
      go_enter Tryd.func8, Tryd.ntmps8
      go_wp2_with (first | (go_at_call_of 21 (Value.agg #[.int .i64 k1, .int .i64 n1, .string s1]); refine (Z1.out _).mono ?_; rintro e w' ⟨rfl, hb⟩; replace hB := more hB HB0.out hb; obtain ⟨hc, hf⟩ := bcell hB; clear hb) | (go_at_call_of 21 (Value.agg #[.int .i64 k2, .int .i64 n2, .string s2]); refine (Z2.out _).mono ?_; rintro e w' ⟨rfl, hb⟩; replace hB := more hB HB0.out hb; obtain ⟨hc, hf⟩ := bcell hB; clear hb))
      go_ret
      exact ⟨rfl, front hF (by omega) hB⟩
    · simp only [if_neg l2] at z2
      have Z2 := Lib.hid z2
      clear z2
      have g1 := valDo_spec op k1 n1 s1 k2 n2 s2
      have g2 := valDo_impl op k1 n1 s1 k2 n2 s2
      generalize valDoV op k1 n1 s1 k2 n2 s2 = x at g1 g2
      have G1 := Lib.hid g1
      have G2 := Lib.hid g2
      clear g1 g2
      go_enter Tryd.func8, Tryd.ntmps8
      go_wp2_with (first
        | (go_at_call_of 21 (Value.agg #[.int .i64 k1, .int .i64 n1, .string s1]); refine (Z1.out _).mono ?_; rintro e w' ⟨rfl, hb⟩; replace hB := more hB HB0.out hb; obtain ⟨hc, hf⟩ := bcell hB; clear hb)
        | (go_at_call_of 21 (Value.agg #[.int .i64 k2, .int .i64 n2, .string s2]); refine (Z2.out _).mono ?_; rintro e w' ⟨rfl, hb⟩; replace hB := more hB HB0.out hb; obtain ⟨hc, hf⟩ := bcell hB; clear hb))
      have hG := hB
      have z0 : w.heap.size < w'.heap.size := by have := hB.size; simp at this; omega
      have z1 : w.heap.size + 1 < w'.heap.size := by have := hB.size; simp at this; omega
      have y0 : w.heap.size ≤ w'.heap.size := by omega
      have y1 : w.heap.size + 1 ≤ w'.heap.size := by omega
      obtain ⟨ws, rfl⟩ : ∃ x, x = w' := ⟨_, rfl⟩
      have hFF := Lib.hid hF
      clear hB hF
      go_cut [8] (fun s8 wx => ∃ g : Nat, s8 = .pointer (some ⟨g, 0, none⟩) ∧ w.heap.size + 2 ≤ g ∧ g < wx.heap.size ∧ wx.cell? ⟨g, 0, none⟩ = some (.int .i64 x.k) ∧ wx.cell? ⟨g, 1, none⟩ = some (.int .i64 x.n) ∧ wx.cell? ⟨g, 2, none⟩ = some (.string x.s) ∧ Below (w.heap.size + 2) ((w.alloc (.cells #[.int .i64 k1, .int .i64 n1, .string s1] 32)).alloc (.cells #[.int .i64 k2, .int .i64 n2, .string s2] 32)) wx)
      case first =>
        go_region_with (first
          | (go_at_call_of 22 (Value.agg #[.int .i64 k1, .int .i64 n1, .string s1]); refine (toValue_any _ _ _ _).mono ?_; rintro e wa ⟨rfl, hb⟩; have hz := hb.size; (try simp at hz); have hG := Below.trans (B := w.heap.size + 2) (a := ((w.alloc (.cells #[.int .i64 k1, .int .i64 n1, .string s1] 32)).alloc (.cells #[.int .i64 k2, .int .i64 n2, .string s2] 32))) (by go_grown; all_goals first | omega | (simp; omega)) (hb.mono (by first | omega | (simp; done) | (simp; omega))); obtain ⟨hc, hf⟩ := bcell hb; (try simp at hc); (try simp at hf); clear hb; have z0 : w.heap.size < wa.heap.size := (by omega); have z1 : w.heap.size + 1 < wa.heap.size := (by omega); have y0 : w.heap.size ≤ wa.heap.size := (by omega); have y1 : w.heap.size + 1 ≤ wa.heap.size := (by omega); (try have : ws.heap.size < wa.heap.size := (by omega)); (try have : ws.heap.size ≤ wa.heap.size := (by omega)))
          | (go_at_call_of 22 (Value.agg #[.int .i64 k2, .int .i64 n2, .string s2]); refine (toValue_any _ _ _ _).mono ?_; rintro e wb ⟨rfl, hb⟩; have hz := hb.size; (try simp at hz); have hG := Below.trans (B := w.heap.size + 2) (a := ((w.alloc (.cells #[.int .i64 k1, .int .i64 n1, .string s1] 32)).alloc (.cells #[.int .i64 k2, .int .i64 n2, .string s2] 32))) (by go_grown; all_goals first | omega | (simp; omega)) (hb.mono (by first | omega | (simp; done) | (simp; omega))); obtain ⟨hc, hf⟩ := bcell hb; (try simp at hc); (try simp at hf); clear hb; have z0 : w.heap.size < wb.heap.size := (by omega); have z1 : w.heap.size + 1 < wb.heap.size := (by omega); have y0 : w.heap.size ≤ wb.heap.size := (by omega); have y1 : w.heap.size + 1 ≤ wb.heap.size := (by omega); (try have : ws.heap.size < wb.heap.size := (by omega)); (try have : ws.heap.size ≤ wb.heap.size := (by omega)); (try have : wa.heap.size < wb.heap.size := (by omega)); (try have : wa.heap.size ≤ wb.heap.size := (by omega)))
          | (go_at_call 20; refine (G1.out _).mono ?_; rintro e wc ⟨rfl, hb⟩; have hz := hb.size; (try simp at hz); have hG := Below.trans (B := w.heap.size + 2) (a := ((w.alloc (.cells #[.int .i64 k1, .int .i64 n1, .string s1] 32)).alloc (.cells #[.int .i64 k2, .int .i64 n2, .string s2] 32))) (by go_grown; all_goals first | omega | (simp; omega)) (hb.mono (by first | omega | (simp; done) | (simp; omega))); obtain ⟨hc, hf⟩ := bcell hb; (try simp at hc); (try simp at hf); clear hb; have z0 : w.heap.size < wc.heap.size := (by omega); have z1 : w.heap.size + 1 < wc.heap.size := (by omega); have y0 : w.heap.size ≤ wc.heap.size := (by omega); have y1 : w.heap.size + 1 ≤ wc.heap.size := (by omega); (try have : ws.heap.size < wc.heap.size := (by omega)); (try have : ws.heap.size ≤ wc.heap.size := (by omega)); (try have : wa.heap.size < wc.heap.size := (by omega)); (try have : wa.heap.size ≤ wc.heap.size := (by omega)); (try have : wb.heap.size < wc.heap.size := (by omega)); (try have : wb.heap.size ≤ wc.heap.size := (by omega))))
        all_goals
          go_wp2_with fail
          go_meet
          refine ⟨_, rfl, by omega, ?_, ?_, ?_, ?_, by go_grown; all_goals first | omega | (simp; omega)⟩
          all_goals first | go_simp | (simp; done) | (simp; omega)
      case rest =>
        obtain ⟨g, rfl, hg0, hg1, c0, c1, c2, hG⟩ := hcut
        have hg2 : g ≤ wc.heap.size := by omega
        obtain ⟨hc, hf⟩ := bcell hG
        have z0 : w.heap.size < wc.heap.size := by omega
        have z1 : w.heap.size + 1 < wc.heap.size := by omega
        have y0 : w.heap.size ≤ wc.heap.size := by omega
        have y1 : w.heap.size + 1 ≤ wc.heap.size := by omega
        have HC0 := Lib.hid c0
        have HC1 := Lib.hid c1
        have HC2 := Lib.hid c2
        clear c0 c1 c2
        go_wp2_with fail
        go_cut [9] (fun s9 wx => ∃ h : Nat, s9 = .pointer (some ⟨h, 0, none⟩) ∧ wx.cell? ⟨h, 0, none⟩ = some (.int .i64 x.k) ∧ wx.cell? ⟨h, 1, none⟩ = some (.int .i64 x.n) ∧ wx.cell? ⟨h, 2, none⟩ = some (.string x.s) ∧ Below wc.heap.size wc wx)
        case first =>
          have hW := Below.refl wc.heap.size wc
          go_region_with (first
            | (go_at_call_of 22 (Value.agg #[.int .i64 k1, .int .i64 n1, .string s1]); refine (toValue_any _ _ _ _).mono ?_; rintro e va ⟨rfl, hb⟩; have hz := hb.size; (try simp at hz); have hW := Below.trans (B := wc.heap.size) (a := wc) (by go_grown; all_goals first | omega | (simp; omega)) (hb.mono (by first | omega | (simp; done) | (simp; omega))); obtain ⟨hc, hf⟩ := bcell hb; (try simp at hc); (try simp at hf); clear hb; have z0 : w.heap.size < va.heap.size := (by omega); have z1 : w.heap.size + 1 < va.heap.size := (by omega); have y0 : w.heap.size ≤ va.heap.size := (by omega); have y1 : w.heap.size + 1 ≤ va.heap.size := (by omega); (try have : wc.heap.size < va.heap.size := (by omega)); (try have : wc.heap.size ≤ va.heap.size := (by omega)))
            | (go_at_call_of 22 (Value.agg #[.int .i64 k2, .int .i64 n2, .string s2]); refine (toValue_any _ _ _ _).mono ?_; rintro e vb ⟨rfl, hb⟩; have hz := hb.size; (try simp at hz); have hW := Below.trans (B := wc.heap.size) (a := wc) (by go_grown; all_goals first | omega | (simp; omega)) (hb.mono (by first | omega | (simp; done) | (simp; omega))); obtain ⟨hc, hf⟩ := bcell hb; (try simp at hc); (try simp at hf); clear hb; have z0 : w.heap.size < vb.heap.size := (by omega); have z1 : w.heap.size + 1 < vb.heap.size := (by omega); have y0 : w.heap.size ≤ vb.heap.size := (by omega); have y1 : w.heap.size + 1 ≤ vb.heap.size := (by omega); (try have : wc.heap.size < vb.heap.size := (by omega)); (try have : wc.heap.size ≤ vb.heap.size := (by omega)); (try have : va.heap.size < vb.heap.size := (by omega)); (try have : va.heap.size ≤ vb.heap.size := (by omega)))
            | (go_at_call 13; refine (G2.out _ ?_).mono ?_; (exact HT.out.next (hFF.out.trans ((hG.trans (Below.mono (B := wc.heap.size) (by go_grown; all_goals first | omega | (simp; omega)) (by omega))).mono (by omega)))); rintro e vc ⟨rfl, hb⟩; have hz := hb.size; (try simp at hz); have hW := Below.trans (B := wc.heap.size) (a := wc) (by go_grown; all_goals first | omega | (simp; omega)) (hb.mono (by first | omega | (simp; done) | (simp; omega))); obtain ⟨hc, hf⟩ := bcell hb; (try simp at hc); (try simp at hf); clear hb; have z0 : w.heap.size < vc.heap.size := (by omega); have z1 : w.heap.size + 1 < vc.heap.size := (by omega); have y0 : w.heap.size ≤ vc.heap.size := (by omega); have y1 : w.heap.size + 1 ≤ vc.heap.size := (by omega); (try have : wc.heap.size < vc.heap.size := (by omega)); (try have : wc.heap.size ≤ vc.heap.size := (by omega)); (try have : va.heap.size < vc.heap.size := (by omega)); (try have : va.heap.size ≤ vc.heap.size := (by omega)); (try have : vb.heap.size < vc.heap.size := (by omega)); (try have : vb.heap.size ≤ vc.heap.size := (by omega))))
          all_goals
            go_wp2_with fail
            go_meet
            refine ⟨_, rfl, ?_, ?_, ?_, by go_grown; all_goals first | omega | (simp; omega)⟩
            all_goals first | go_simp | (simp; done) | (simp; omega)
        case rest =>
          obtain ⟨h, rfl, d0, d1, d2, hW⟩ := hcut
          have e0 := (hW.cell (p := ⟨g, 0, none⟩) hg1).trans HC0.out
          have e1 := (hW.cell (p := ⟨g, 1, none⟩) hg1).trans HC1.out
          have e2 := (hW.cell (p := ⟨g, 2, none⟩) hg1).trans HC2.out
          have HW := Lib.hid (hFF.out.trans ((hG.trans (hW.mono (by omega))).mono (by omega)))
          clear hW hG hc hf
          go_wp2_with (go_at_call 23; refine (eqValue_same _ _ _ _).mono ?_; rintro e vd ⟨rfl, hb⟩)
          go_ret
          exact ⟨rfl, HW.out.trans (hb.mono HW.out.size)⟩

theorem tab {W : World} (h : laidMetH Tryd.prog Rows.fnExactValDoRow.laid W) : Tab W :=
  tab_of_laid Rows.fnExactValDoRow.laid (by kernel_rfl) (by kernel_rfl) h

theorem contract (H : Type) (enc : TypeId × Value → H) (W : World) (base : Nat) (args : Array Value) (ds gs : List (DataW H)) (before : List MemPlace)
    (hval : ∀ (j : Nat) t v, Tryd.f8.params[j]? = some t → args[j]? = some v → Value.okWide Tryd.prog W .any base t v)
    (hW : DataW.Whole enc Tryd.prog Tryd.f8.params.toList Rows.fnExactValDoSpec.vars false W args.toList ds gs before)
    (hL : laidMetH Tryd.prog Rows.fnExactValDoRow.laid W) :
    Calls Tryd.prog 8 args W fun e W' => ∃ v, e = .returned v ∧ Rows.fnExactValDoSpec.post enc Tryd.prog Tryd.f8 false true false false W args v W' := by
  have hW' := hW
  obtain ⟨p, q, hA0, hV, rfl, hfz, hnd⟩ := hW
  have hA : DataW.TrodAll enc Tryd.prog W 0 (fun _ => true) true Tryd.f8.params.toList args.toList ds p := hA0
  rw [Tryd.params8] at hA hval
  obtain ⟨v0, vs0, d0, ds0, p0, q0, hargs, rfl, rfl, h0, r0⟩ := trodAll_cons hA
  obtain ⟨v1, vs1, d1, ds1, p1, q1, rfl, rfl, rfl, h1, r1⟩ := trodAll_cons r0
  obtain ⟨v2, vs2, d2, ds2, p2, q2, rfl, rfl, rfl, h2, r2⟩ := trodAll_cons r1
  obtain ⟨rfl, rfl, rfl⟩ := trodAll_nil r2
  obtain rfl : args = #[v0, v1, v2] := by cases args; simp_all
  obtain ⟨rfl, rfl⟩ := trodVars_none hV
  obtain ⟨i0, rfl, hd0, hp0, wi0⟩ := open_int Tryd.underlying3 (hval 0 _ v0 rfl rfl) h0
  obtain ⟨k1, n1, s1, rfl, hs1, wk1, wn1, hd1⟩ := open_value (hval 1 _ v1 rfl rfl) h1
  obtain ⟨k2, n2, s2, rfl, hs2, wk2, wn2, hd2⟩ := open_value (hval 2 _ v2 rfl rfl) h2
  exact (walk (hT := tab hL) i0 k1 n1 s1 k2 n2 s2 W hs1 hs2).mono fun e W' ⟨he, hB⟩ => ⟨_, he, law_post rfl rfl hW' laidOut (of_decide_eq_true (by kernel_rfl)) rfl Tryd.underlying4 hB⟩

/-- A world for the witness: the settled one, with the library's tables as their text lays them. -/
noncomputable def laidWorld (os : Os) : World :=
  { World.holding Tryd.prog os ⟨#[], #[], []⟩ with heap := ((((World.holding Tryd.prog os ⟨#[], #[], []⟩).heap).modify 1 (layCells (datCells Rows.laid_math_bits_deBruijn32tab))).modify 2 (layCells (datCells Rows.laid_math_bits_deBruijn64tab))).modify 0 (layCells (datCells Rows.laid_internal_strconv_uint64pow10)) }
theorem laid_met (os : Os) : laidMet Tryd.prog Rows.fnExactValDoRow.laid ((laidWorld os).forCall (fun _ _ => 0) ⟨#[], #[.int .i64 0, .agg #[.int .i64 0, .int .i64 0, .string ⟨#[]⟩], .agg #[.int .i64 0, .int .i64 0, .string ⟨#[]⟩]], []⟩).memory :=
  laidMet_of_run' 8 (by kernel_rfl) (by kernel_rfl)
theorem reads (os : Os) {H : Type} (enc : TypeId × Value → H) : ∃ places, DataW.whole enc Tryd.prog ((laidWorld os).forCall (fun _ _ => 0) ⟨#[], #[.int .i64 0, .agg #[.int .i64 0, .int .i64 0, .string ⟨#[]⟩], .agg #[.int .i64 0, .int .i64 0, .string ⟨#[]⟩]], []⟩).memory Tryd.f8.params.toList Rows.fnExactValDoSpec.vars false (#[.int .i64 0, .agg #[.int .i64 0, .int .i64 0, .string ⟨#[]⟩], .agg #[.int .i64 0, .int .i64 0, .string ⟨#[]⟩]] : Array Value).toList 8 = some ([.lit (.int .i64 0), .agg [.lit (.int .i64 0), .lit (.int .i64 0), .lit (.string [])], .agg [.lit (.int .i64 0), .lit (.int .i64 0), .lit (.string [])]], [], places) :=
  ⟨[], by kernel_rfl⟩

set_option maxRecDepth 100000 in
theorem lifted (os : Os) (started : os.Started) (H : Type) (enc : TypeId × Value → H) (F : Stop.Interp) :
    ReturnsInHanded {} Tryd.checked os 8 .any ((OpenSpec.ofChange Rows.fnExactValDoSpec).preRow enc Tryd.prog Tryd.f8 Rows.fnExactValDoRow.domain false Rows.fnExactValDoRow.laid) (((OpenSpec.ofChange Rows.fnExactValDoSpec).at F).post enc Tryd.prog Tryd.f8 false true false false) := by
  obtain ⟨places, hx⟩ := reads os enc
  refine returnsInHanded_of_row (C := Tryd.checked) (s := OpenSpec.ofChange Rows.fnExactValDoSpec) own started (by kernel_rfl) Tryd.func8
    (witness_row_at (enc := enc) (C := Tryd.checked) false (laidWorld os) #[.int .i64 0, .agg #[.int .i64 0, .int .i64 0, .string ⟨#[]⟩], .agg #[.int .i64 0, .int .i64 0, .string ⟨#[]⟩]] rfl (by kernel_rfl) (by kernel_rfl) (by kernel_rfl)
      (OpenSpec.preRow_of_cond 8 hx (by kernel_rfl) (fun k hk => by cases hk) (by kernel_rfl) (laid_met os))) ?_
  intro W base args ds gs before hval hW _ _ _ hL _ _
  exact contract H enc W base args ds gs before hval hW hL

theorem said : Rows.FnExactValDoSaid :=
  OpenClaim.holds_of_cond 8 Tryd.f8 rfl rfl rfl rfl rfl rfl rfl ⟨rfl, rfl, rfl, rfl, rfl⟩ rfl rfl rfl rfl rfl (by kernel_rfl) Tryd.func8 (by kernel_rfl)
    (of_decide_eq_true (by kernel_rfl)) (by unfold Func.isWrapper; first | (rw [if_pos (by decide +kernel)]; kernel_rfl) | (rw [if_neg (by decide +kernel)]; exact ⟨rfl, rfl⟩))
    (fun os started H enc _ F => by rw [OpenClaim.pre_eq_preRow]; exact lifted os started H enc F)

/-- No parameter wants a stand-in; the program's own looks are off. -/
theorem plain (f : FuncId) (fn : Func) (hf : Tryd.pinned.checked.prog.funcNamed Rows.fnExactValDoRow.func = some f) (hfn : Tryd.pinned.checked.prog.funcs[f]? = some fn) :
    false = Tryd.pinned.checked.prog.looks [] ∧ ∀ (j : Nat) t, fn.params[j]? = some t → Tryd.pinned.checked.prog.wantsStandIn t = false := by
  obtain rfl : f = 8 := Option.some.inj ((show Tryd.prog.funcNamed Rows.fnExactValDoRow.func = some 8 by kernel_rfl).symm.trans hf) |>.symm
  obtain rfl : fn = Tryd.f8 := (Option.some.inj (Tryd.func8.symm.trans hfn)).symm
  refine ⟨by kernel_rfl, fun j t ht => ?_⟩
  have hall : Tryd.f8.params.toList.all (fun t => !Tryd.prog.wantsStandIn t) = true := by kernel_rfl
  rw [List.all_eq_true] at hall
  have hw : Tryd.prog.wantsStandIn t = false := by simpa using hall t (Array.mem_toList_iff.2 (Array.mem_of_getElem? ht))
  exact hw

theorem proved : Rows.FnExactValDoCardSaid :=
  Claim7.holds_tied_plain_at .later [] _ _ _ _ said (fun _ h => by cases h) (by kernel_rfl) (fun _ h => by cases h) fnExactValDo_row_tie rfl ⟨rfl, rfl⟩ (by kernel_rfl) rfl plain (by kernel_rfl)
end Go.Proofs.YtdffjldcdlgedaaDoor.fnExactValDo
