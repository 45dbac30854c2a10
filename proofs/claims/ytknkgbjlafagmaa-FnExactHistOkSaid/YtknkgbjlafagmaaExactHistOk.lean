/- The law FnExactHistOk answers true at every history, and leaves it as it was. No conditions. -/
import Derived.Test.YtknkgbjlafagmaaHst5
import Derived.Test.YtknkgbjlafagmaaHst6
import Derived.Deep.RegionHeld3
namespace Go.Proofs.Ytknkgbjlafagmaa.fnExactHistOk
open Go.Joins Go.ChangeShapes Go.WideShapes Go.ChangeAt Go.RowKit Go.Deep
set_option linter.unusedVariables false
set_option linter.unusedSimpArgs false

set_option maxHeartbeats 4000000 in
theorem walk (A0 A1 A2 : Option Addr) (c0 c1 c2 : Nat) (x : Hi) (w : World) (hl : x.now.length ≤ maxLen ∧ x.back.length ≤ maxLen ∧ x.ahead.length ≤ maxLen) (hx : CeL w A0 x.now) (hy : StL w A1 x.back) (hz : StL w A2 x.ahead) (t0 : SmS x.now) (t1 : ∀ y ∈ x.back, SmS y) (t2 : ∀ y ∈ x.ahead, SmS y) :
    Calls Try.prog 8 #[.agg #[.slice A0 x.now.length c0, .slice A1 x.back.length c1, .slice A2 x.ahead.length c2]] w fun e w' => e = .returned (.bool true) ∧ Below w.heap.size w w' := by
  obtain ⟨l0, l1, l2⟩ := hl
  have KZ := Lib.hid (fun w hx hy hz => szHist_any A0 A1 A2 x.now.length x.back.length x.ahead.length c0 c1 c2 x w hx hy hz rfl rfl rfl l0 l1 l2 t0 t1 t2 1048576 (by omega) (by omega))
  have HB0 := Lib.hid (show Below w.heap.size w (w.alloc (.cells #[.slice A0 x.now.length c0, .slice A1 x.back.length c1, .slice A2 x.ahead.length c2] 48)) by go_grown)
  have kz := KZ.out _ (hx.below HB0.out) (hy.below HB0.out) (hz.below HB0.out)
  clear KZ t0 t1 t2
  have hp := szHi_pos x
  by_cases hbig : 1048576 < szHi x
  · rw [leftV_neg hbig] at kz
    have KZ := Lib.hid kz
    clear kz hx hy hz
    obtain ⟨n, hn⟩ : ∃ n, x.now.length = n := ⟨_, rfl⟩
    obtain ⟨m, hm⟩ : ∃ n, x.back.length = n := ⟨_, rfl⟩
    obtain ⟨q, hq⟩ : ∃ n, x.ahead.length = n := ⟨_, rfl⟩
    rw [hn, hm, hq] at KZ HB0 ⊢
    clear l0 l1 l2 hn hm hq
    go_enter Try.func8, Try.ntmps8
    go_wp2_with fail
    refine KZ.out.mono ?_
    rintro e w1 ⟨rfl, hb⟩
    have HB1 := Lib.hid (HB0.out.trans (hb.mono HB0.out.size))
    clear hb
    go_wp2_with fail
    go_ret
    exact ⟨rfl, HB1.out⟩
  · rw [leftV_pos (by omega)] at kz
    have hle : szHi x ≤ 1048576 := by omega
    obtain ⟨z, hz'⟩ : ∃ z, (1048576 : Int) - szHi x = z := ⟨_, rfl⟩
    have hz0 : 0 ≤ z := by omega
    rw [hz'] at kz
    have KZ := Lib.hid kz
    have p0 := szSt_pos x.now
    have p1 := szSts_pos x.back
    have p2 := szSts_pos x.ahead
    have hsm : ∀ xs : List Ce, szSt xs ≤ 1048576 → Sm2 xs := fun xs h => by
      unfold szSt at h
      have hc := szCs_pos xs
      exact ⟨by omega, fun y hy => by have := szCs_mem hy h; omega⟩
    unfold szHi at hle
    have S0 := Lib.hid (hsm x.now (by omega))
    have S1 := Lib.hid (fun y (hy : y ∈ x.back) => hsm y (by have := szSts_mem hy; omega))
    have S2 := Lib.hid (fun y (hy : y ∈ x.ahead) => hsm y (by have := szSts_mem hy; omega))
    have hm1 : x.back.length ≤ 1048576 := by omega
    have hq1 : x.ahead.length ≤ 1048576 := by omega
    have HX := Lib.hid hx
    have HY := Lib.hid hy
    have HZ := Lib.hid hz
    obtain ⟨n, hn⟩ : ∃ n, x.now.length = n := ⟨_, rfl⟩
    obtain ⟨m, hm⟩ : ∃ n, x.back.length = n := ⟨_, rfl⟩
    obtain ⟨q, hq⟩ : ∃ n, x.ahead.length = n := ⟨_, rfl⟩
    rw [hn] at l0
    rw [hm] at l1
    rw [hq] at l2
    have KT := Lib.hid (fun w hx hy hz => toHist_any A0 A1 A2 n m q c0 c1 c2 x w hx hy hz hn hm hq (by omega) (by omega) S0.out S1.out S2.out)
    have ks := fun B0 B1 B2 e0 e1 e2 w hx hy hz => shist_any B0 B1 B2 n m q e0 e1 e2 x w hx hy hz hn hm hq l0 (by omega) (by omega)
    have ki := fun B0 B1 B2 e0 e1 e2 w hx hy hz => ihist_any B0 B1 B2 n m q e0 e1 e2 x w hx hy hz hn hm hq l0 (by omega) (by omega)
    have KE := Lib.hid (fun B0 B1 B2 C0 C1 C2 w hx hy hz hx' hy' hz' => eqHist_same B0 B1 B2 C0 C1 C2 n m q n m q n m q x w hx hy hz hx' hy' hz' hn hm hq l0 l1 l2)
    obtain ⟨v, hv⟩ : ∃ v, histB x = v := ⟨_, rfl⟩
    rw [hv] at ks ki
    have KS := Lib.hid ks
    have KI := Lib.hid ki
    rw [hn, hm, hq] at KZ HB0 ⊢
    clear ks ki hv kz hle hsm p0 p1 p2 hp hbig hz' hx hy hz l0 l1 l2 hn hm hq hm1 hq1
    go_enter Try.func8, Try.ntmps8
    go_wp2_with fail
    refine (KZ.out).mono ?_
    rintro e w1 ⟨rfl, hb⟩
    have HB1 := Lib.hid (front (w := w) (W0 := _) (by go_grown) (by simp <;> omega) hb)
    have c00 : w1.cell? ⟨w.heap.size, 0, none⟩ = some (.slice A0 n c0) := (hb.cell (p := ⟨w.heap.size, 0, none⟩) (by simp <;> omega)).trans (by go_simp)
    have c01 : w1.cell? ⟨w.heap.size, 1, none⟩ = some (.slice A1 m c1) := (hb.cell (p := ⟨w.heap.size, 1, none⟩) (by simp <;> omega)).trans (by go_simp)
    have c02 : w1.cell? ⟨w.heap.size, 2, none⟩ = some (.slice A2 q c2) := (hb.cell (p := ⟨w.heap.size, 2, none⟩) (by simp <;> omega)).trans (by go_simp)
    have f0 : ∀ o, w1.frozen? ⟨w.heap.size, o, none⟩ = false := fun o => (hb.frozen (p := ⟨w.heap.size, o, none⟩) (by simp <;> omega)).trans (by go_simp)
    have hz1 : w.heap.size < w1.heap.size := by have := hb.size; simp at this; omega
    clear hb
    go_wp2_with fail
    refine (KT.out _ (HX.out.below HB1.out) (HY.out.below HB1.out) (HZ.out.below HB1.out)).mono ?_
    rintro e w2 ⟨g0, g1, g2, rfl, o0, o1, o2, hb⟩
    have HB2 := Lib.hid (more HB1.out (Nat.le_refl _) hb)
    replace c00 := (hb.cell (p := ⟨w.heap.size, 0, none⟩) (by first | omega | (simp; done) | (simp; omega))).trans c00
    replace c01 := (hb.cell (p := ⟨w.heap.size, 1, none⟩) (by first | omega | (simp; done) | (simp; omega))).trans c01
    replace c02 := (hb.cell (p := ⟨w.heap.size, 2, none⟩) (by first | omega | (simp; done) | (simp; omega))).trans c02
    replace f0 : ∀ o, w2.frozen? ⟨w.heap.size, o, none⟩ = false := fun o => (hb.frozen (p := ⟨w.heap.size, o, none⟩) (by first | omega | (simp; done) | (simp; omega))).trans (f0 o)
    have hz2 : w.heap.size < w2.heap.size := by have := hb.size; omega
    have R20 := Lib.hid (o0.lies S0.out)
    have R21 := Lib.hid (o1.lies S1.out)
    have R22 := Lib.hid (o2.lies S2.out)
    clear hb o0 o1 o2
    go_wp2_with fail
    refine (KS.out _ _ _ _ _ _ _ R20.out R21.out R22.out).mono ?_
    rintro e w3 ⟨rfl, hb⟩
    have HB3 := Lib.hid (more HB2.out (Nat.le_refl _) hb)
    replace c00 := (hb.cell (p := ⟨w.heap.size, 0, none⟩) (by first | omega | (simp; done) | (simp; omega))).trans c00
    replace c01 := (hb.cell (p := ⟨w.heap.size, 1, none⟩) (by first | omega | (simp; done) | (simp; omega))).trans c01
    replace c02 := (hb.cell (p := ⟨w.heap.size, 2, none⟩) (by first | omega | (simp; done) | (simp; omega))).trans c02
    replace f0 : ∀ o, w3.frozen? ⟨w.heap.size, o, none⟩ = false := fun o => (hb.frozen (p := ⟨w.heap.size, o, none⟩) (by first | omega | (simp; done) | (simp; omega))).trans (f0 o)
    have hz3 : w.heap.size < w3.heap.size := by have := hb.size; omega
    clear hb R20 R21 R22
    go_wp2_with fail
    refine (KT.out _ (HX.out.below HB3.out) (HY.out.below HB3.out) (HZ.out.below HB3.out)).mono ?_
    rintro e w4 ⟨d0, d1, d2, rfl, o0, o1, o2, hb⟩
    have HB4 := Lib.hid (more HB3.out (Nat.le_refl _) hb)
    replace c00 := (hb.cell (p := ⟨w.heap.size, 0, none⟩) (by first | omega | (simp; done) | (simp; omega))).trans c00
    replace c01 := (hb.cell (p := ⟨w.heap.size, 1, none⟩) (by first | omega | (simp; done) | (simp; omega))).trans c01
    replace c02 := (hb.cell (p := ⟨w.heap.size, 2, none⟩) (by first | omega | (simp; done) | (simp; omega))).trans c02
    replace f0 : ∀ o, w4.frozen? ⟨w.heap.size, o, none⟩ = false := fun o => (hb.frozen (p := ⟨w.heap.size, o, none⟩) (by first | omega | (simp; done) | (simp; omega))).trans (f0 o)
    have hz4 : w.heap.size < w4.heap.size := by have := hb.size; omega
    have R40 := Lib.hid (o0.lies S0.out)
    have R41 := Lib.hid (o1.lies S1.out)
    have R42 := Lib.hid (o2.lies S2.out)
    clear hb o0 o1 o2
    have hA := Below.alloc (Below.refl w4.heap.size w4) (Nat.le_refl _) (.cells #[.slice (some ⟨d0, 0, none⟩) n n, .slice (some ⟨d1, 0, none⟩) m m, .slice (some ⟨d2, 0, none⟩) q q] 53)
    replace R40 := Lib.hid (R40.out.below hA)
    replace R41 := Lib.hid (R41.out.below hA)
    replace R42 := Lib.hid (R42.out.below hA)
    have HB4a := Lib.hid (HB4.out.alloc HB4.out.size (.cells #[.slice (some ⟨d0, 0, none⟩) n n, .slice (some ⟨d1, 0, none⟩) m m, .slice (some ⟨d2, 0, none⟩) q q] 53))
    clear hA
    go_wp2_with fail
    refine (KI.out _ _ _ _ _ _ _ R40.out R41.out R42.out).mono ?_
    rintro e w5 ⟨rfl, hb⟩
    have HB5 := Lib.hid (more HB4a.out (Nat.le_refl _) hb)
    replace R40 := Lib.hid (R40.out.below hb)
    replace R41 := Lib.hid (R41.out.below hb)
    replace R42 := Lib.hid (R42.out.below hb)
    replace c00 : w5.cell? ⟨w.heap.size, 0, none⟩ = some (.slice A0 n c0) := (hb.cell (p := ⟨w.heap.size, 0, none⟩) (by first | omega | (simp; done) | (simp; omega))).trans ((Below.cell (Below.alloc (Below.refl w4.heap.size w4) (Nat.le_refl _) (.cells #[.slice (some ⟨d0, 0, none⟩) n n, .slice (some ⟨d1, 0, none⟩) m m, .slice (some ⟨d2, 0, none⟩) q q] 53)) (p := ⟨w.heap.size, 0, none⟩) (by first | omega | (simp; done) | (simp; omega))).trans c00)
    replace c01 : w5.cell? ⟨w.heap.size, 1, none⟩ = some (.slice A1 m c1) := (hb.cell (p := ⟨w.heap.size, 1, none⟩) (by first | omega | (simp; done) | (simp; omega))).trans ((Below.cell (Below.alloc (Below.refl w4.heap.size w4) (Nat.le_refl _) (.cells #[.slice (some ⟨d0, 0, none⟩) n n, .slice (some ⟨d1, 0, none⟩) m m, .slice (some ⟨d2, 0, none⟩) q q] 53)) (p := ⟨w.heap.size, 1, none⟩) (by first | omega | (simp; done) | (simp; omega))).trans c01)
    replace c02 : w5.cell? ⟨w.heap.size, 2, none⟩ = some (.slice A2 q c2) := (hb.cell (p := ⟨w.heap.size, 2, none⟩) (by first | omega | (simp; done) | (simp; omega))).trans ((Below.cell (Below.alloc (Below.refl w4.heap.size w4) (Nat.le_refl _) (.cells #[.slice (some ⟨d0, 0, none⟩) n n, .slice (some ⟨d1, 0, none⟩) m m, .slice (some ⟨d2, 0, none⟩) q q] 53)) (p := ⟨w.heap.size, 2, none⟩) (by first | omega | (simp; done) | (simp; omega))).trans c02)
    have c10 : w5.cell? ⟨w4.heap.size, 0, none⟩ = some (.slice (some ⟨d0, 0, none⟩) n n) := (hb.cell (p := ⟨w4.heap.size, 0, none⟩) (by first | omega | (simp; done) | (simp; omega))).trans (by go_simp)
    have c11 : w5.cell? ⟨w4.heap.size, 1, none⟩ = some (.slice (some ⟨d1, 0, none⟩) m m) := (hb.cell (p := ⟨w4.heap.size, 1, none⟩) (by first | omega | (simp; done) | (simp; omega))).trans (by go_simp)
    have c12 : w5.cell? ⟨w4.heap.size, 2, none⟩ = some (.slice (some ⟨d2, 0, none⟩) q q) := (hb.cell (p := ⟨w4.heap.size, 2, none⟩) (by first | omega | (simp; done) | (simp; omega))).trans (by go_simp)
    have hz5 : w4.heap.size < w5.heap.size := by have := hb.size; simp at this; omega
    have hB := HB5.out
    clear hb HB1 HB2 HB3 HB4 HB4a HB5 f0 KZ KS KI
    go_wp2_with fail
    go_region_held3 (fun w' => w'.cell? ⟨w.heap.size, 0, none⟩ = some (.slice A0 n c0) ∧ w'.cell? ⟨w.heap.size, 1, none⟩ = some (.slice A1 m c1) ∧ w'.cell? ⟨w.heap.size, 2, none⟩ = some (.slice A2 q c2) ∧ w'.cell? ⟨w4.heap.size, 0, none⟩ = some (.slice (some ⟨d0, 0, none⟩) n n) ∧ w'.cell? ⟨w4.heap.size, 1, none⟩ = some (.slice (some ⟨d1, 0, none⟩) m m) ∧ w'.cell? ⟨w4.heap.size, 2, none⟩ = some (.slice (some ⟨d2, 0, none⟩) q q)) (go_keep) (first
      | (go_at_call 34; refine (KT.out _ (HX.out.below (by go_grown)) (HY.out.below (by go_grown)) (HZ.out.below (by go_grown))).mono ?_; rintro e w' ⟨j0, j1, j2, rfl, o0, o1, o2, hb⟩; have N0 := Lib.hid (o0.lies S0.out); have N1 := Lib.hid (o1.lies S1.out); have N2 := Lib.hid (o2.lies S2.out); have hW := more (W1 := _) (B := w5.heap.size) (W0 := w5) (by go_grown) (Nat.le_refl _) hb; replace R40 := Lib.hid (R40.out.below hW); replace R41 := Lib.hid (R41.out.below hW); replace R42 := Lib.hid (R42.out.below hW); replace c00 := (hb.cell (p := ⟨w.heap.size, 0, none⟩) (by first | omega | (simp; done) | (simp; omega))).trans c00; replace c01 := (hb.cell (p := ⟨w.heap.size, 1, none⟩) (by first | omega | (simp; done) | (simp; omega))).trans c01; replace c02 := (hb.cell (p := ⟨w.heap.size, 2, none⟩) (by first | omega | (simp; done) | (simp; omega))).trans c02; replace c10 := (hb.cell (p := ⟨w4.heap.size, 0, none⟩) (by first | omega | (simp; done) | (simp; omega))).trans c10; replace c11 := (hb.cell (p := ⟨w4.heap.size, 1, none⟩) (by first | omega | (simp; done) | (simp; omega))).trans c11; replace c12 := (hb.cell (p := ⟨w4.heap.size, 2, none⟩) (by first | omega | (simp; done) | (simp; omega))).trans c12; replace hB := more (W1 := _) (B := w.heap.size) (W0 := w) (by go_grown) (Nat.le_refl _) hb; replace hz5 := Nat.lt_of_lt_of_le hz5 hW.size; clear hb hW o0 o1 o2)
      | (go_at_call 36; refine (KE.out _ _ _ _ _ _ _ R40.out R41.out R42.out N0.out N1.out N2.out).mono ?_; rintro e w' ⟨rfl, hb⟩; replace c00 := (hb.cell (p := ⟨w.heap.size, 0, none⟩) (by first | omega | (simp; done) | (simp; omega))).trans c00; replace c01 := (hb.cell (p := ⟨w.heap.size, 1, none⟩) (by first | omega | (simp; done) | (simp; omega))).trans c01; replace c02 := (hb.cell (p := ⟨w.heap.size, 2, none⟩) (by first | omega | (simp; done) | (simp; omega))).trans c02; replace c10 := (hb.cell (p := ⟨w4.heap.size, 0, none⟩) (by first | omega | (simp; done) | (simp; omega))).trans c10; replace c11 := (hb.cell (p := ⟨w4.heap.size, 1, none⟩) (by first | omega | (simp; done) | (simp; omega))).trans c11; replace c12 := (hb.cell (p := ⟨w4.heap.size, 2, none⟩) (by first | omega | (simp; done) | (simp; omega))).trans c12; replace hB := more (W1 := _) (B := w.heap.size) (W0 := w) (by go_grown) (Nat.le_refl _) hb; clear hb))
    go_wp2_with fail
    go_ret
    exact ⟨rfl, hB⟩

set_option maxRecDepth 100000 in
theorem contract (H : Type) (enc : TypeId × Value → H) (W : World) (base : Nat) (args : Array Value) (ds gs : List (DataW H)) (before : List MemPlace)
    (hval : ∀ (j : Nat) t v, Try.f8.params[j]? = some t → args[j]? = some v → Value.okWide Try.prog W .any base t v)
    (hW : DataW.Whole enc Try.prog Try.f8.params.toList Rows.fnExactHistOkSpec.vars false W args.toList ds gs before) :
    Calls Try.prog 8 args W fun e W' => ∃ v, e = .returned v ∧ Rows.fnExactHistOkSpec.post enc Try.prog Try.f8 false true false false W args v W' := by
  have hW' := hW
  obtain ⟨p, q, hA0, hV, rfl, hfz, hnd⟩ := hW
  have hA : DataW.TrodAll enc Try.prog W 0 (fun _ => true) true Try.f8.params.toList args.toList ds p := hA0
  rw [Try.params8] at hA hval
  obtain ⟨v0, vs0, d0, ds0, p0, q0, hargs, rfl, rfl, h0, r0⟩ := trodAll_cons hA
  obtain ⟨rfl, rfl, rfl⟩ := trodAll_nil r0
  obtain rfl : args = #[v0] := by cases args; simp_all
  obtain ⟨rfl, rfl⟩ := trodVars_none hV
  obtain ⟨A0, A1, A2, c0, c1, c2, x, rfl, hl0, hx0, hy0, hz0, hs0, hs1, hs2⟩ := open_hist (hval 0 _ v0 rfl rfl) h0 (fun x hx => by simpa using hW'.lt x (by simp [hx]))
  exact (walk A0 A1 A2 c0 c1 c2 x W hl0 hx0 hy0 hz0 hs0 hs1 hs2).mono fun e W' ⟨he, hB⟩ => ⟨_, he, law_post rfl rfl hW' laidOut (of_decide_eq_true (by kernel_rfl)) rfl Try.underlying4 hB⟩

set_option maxRecDepth 100000 in
theorem lifted (os : Os) (started : os.Started) (H : Type) (enc : TypeId × Value → H) :
    ReturnsInHanded {} Try.checked os 8 .any (Rows.fnExactHistOkSpec.pre6 enc Try.prog Try.f8 Rows.fnExactHistOkRow.domain false) (Rows.fnExactHistOkSpec.post enc Try.prog Try.f8 false true false false) := by
  refine returnsInHanded_of_change (C := Try.checked) own started (by kernel_rfl) Try.func8
    (ChangeSpec.witness6 (enc := enc) (C := Try.checked) false ⟨#[], #[.agg #[.slice none 0 0, .slice none 0 0, .slice none 0 0]], []⟩ 8 (by kernel_rfl) (by kernel_rfl) (by kernel_rfl) (by kernel_rfl)) ?_
  intro W base args ds gs before hval hW _ _
  exact contract H enc W base args ds gs before hval hW

set_option maxRecDepth 100000 in
theorem proved : Rows.FnExactHistOkSaid :=
  OpenClaim.holds_of_wide 8 Try.f8 rfl rfl rfl rfl rfl rfl rfl ⟨rfl, rfl, rfl, rfl, rfl⟩ rfl rfl rfl rfl rfl (by kernel_rfl) Try.func8 (by kernel_rfl)
    (of_decide_eq_true (by kernel_rfl)) (by unfold Func.isWrapper; first | (rw [if_pos (by decide +kernel)]; kernel_rfl) | (rw [if_neg (by decide +kernel)]; exact ⟨rfl, rfl⟩))
    (fun os started H enc _ => lifted os started H enc)
end Go.Proofs.Ytknkgbjlafagmaa.fnExactHistOk
