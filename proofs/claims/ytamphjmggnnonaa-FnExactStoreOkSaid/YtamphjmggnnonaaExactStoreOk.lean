/- The law FnExactStoreOk answers true at every store, and leaves it as it was. No conditions. -/
import Derived.Test.YtamphjmggnnonaaSto7
namespace Go.Proofs.Ytamphjmggnnonaa.fnExactStoreOk
open Go.Joins Go.ChangeShapes Go.WideShapes Go.ChangeAt Go.RowKit Go.Deep
set_option linter.unusedVariables false
set_option linter.unusedSimpArgs false

set_option maxHeartbeats 2000000 in
theorem walk (A : Option Addr) (c : Nat) (xs : List Ce) (w : World) (hs : xs.length ≤ maxLen) (hx : CeL w A xs) (hst : ∀ x ∈ xs, ∀ v ∈ x.st, v.s.size ≤ maxLen) :
    Calls Try.prog 9 #[.slice A xs.length c] w fun e w' => e = .returned (.bool true) ∧ Below w.heap.size w w' := by
  have hz := szCells_any A c xs.length xs 1048576 w hx rfl hs hst (by omega) (by omega)
  have hm : xs.length ≤ maxLen := hs
  unfold maxLen at hm
  have hp := szCs_pos xs
  by_cases hl : (1048576 : Int) < xs.length + szCs xs
  · rw [leftV_neg hl] at hz
    have HZ := Lib.hid hz
    clear hz hp
    go_enter Try.func9, Try.ntmps9
    go_wp2_with (go_at_call 29; ((with_reducible refine HZ.out.mono ?_); rintro e w' ⟨rfl, hb⟩))
    go_ret
    exact ⟨rfl, hb⟩
  · rw [leftV_pos (by omega)] at hz
    have HZ := Lib.hid hz
    have HX := Lib.hid hx
    have HS2 := Lib.hid (show ∀ x ∈ xs, x.pl.length ≤ 1048576 ∧ x.st.length ≤ 1048576 from fun x h => by have := szCs_mem h (show xs.length + szCs xs ≤ (1048576 : Int) by omega); omega)
    have HL2 := Lib.hid (show xs.length ≤ 1048576 by omega)
    have HE := Lib.hid (eqCs_refl xs)
    have HS := Lib.hid hs
    obtain ⟨z, hzz⟩ : ∃ z, (1048576 : Int) - (xs.length + szCs xs) = z := ⟨_, rfl⟩
    have hz0 : 0 ≤ z := by omega
    rw [hzz] at HZ
    clear hzz
    obtain ⟨n, hn⟩ : ∃ n, xs.length = n := ⟨_, rfl⟩
    have HN := Lib.hid hn
    rw [hn] at HL2 HZ HS ⊢
    clear hz hx hs hst hl hn hm hp
    cases hv : storeB xs
    all_goals
      have K2 := fun A c w h => sstore_any A c n xs w h HN.out HS.out
      have K3 := fun A c w h => istore_any A c n xs w h HN.out HS.out
      rw [hv] at K2 K3
      have K2' := Lib.hid K2
      have K3' := Lib.hid K3
      clear K2 K3 hv
      go_enter Try.func9, Try.ntmps9
      go_wp2_with (go_at_call 29; ((with_reducible refine HZ.out.mono ?_); rintro e w1 ⟨rfl, hb⟩); have HB1 := Lib.hid hb; clear hb)
      refine (toCells_any A c n xs _ (HX.out.below HB1.out) HN.out HL2.out HS2.out).mono ?_
      rintro e w2 ⟨G2, L2, rfl, hr, hce, hb⟩
      have HO2 := Lib.hid (CeL.of_own hr hce HN.out HS2.out)
      have HB2 := Lib.hid (more HB1.out (Nat.le_refl _) hb)
      clear hr hce hb
      go_wp2_with fail
      refine (K2'.out _ _ _ HO2.out).mono ?_
      rintro e w3 ⟨rfl, hb⟩
      have HB3 := Lib.hid (more HB2.out (Nat.le_refl _) hb)
      clear hb
      go_wp2_with fail
      refine (toCells_any A c n xs _ (HX.out.below HB3.out) HN.out HL2.out HS2.out).mono ?_
      rintro e w4 ⟨G4, L4, rfl, hr, hce, hb⟩
      have HO4 := Lib.hid (CeL.of_own hr hce HN.out HS2.out)
      have HB4 := Lib.hid (more HB3.out (Nat.le_refl _) hb)
      clear hr hce hb
      go_wp2_with fail
      refine (K3'.out _ _ _ HO4.out).mono ?_
      rintro e w5 ⟨rfl, hb⟩
      replace HO4 := Lib.hid (HO4.out.below hb)
      have HB5 := Lib.hid (more HB4.out (Nat.le_refl _) hb)
      clear hb
      go_wp2_with fail
      refine (toCells_any A c n xs _ (HX.out.below HB5.out) HN.out HL2.out HS2.out).mono ?_
      rintro e w6 ⟨G6, L6, rfl, hr, hce, hb⟩
      have HO6 := Lib.hid (CeL.of_own hr hce HN.out HS2.out)
      replace HO4 := Lib.hid (HO4.out.below hb)
      have HB6 := Lib.hid (more HB5.out (Nat.le_refl _) hb)
      clear hr hce hb
      go_wp2_with fail
      have he := HE.out
      refine (eqCells_any _ _ _ _ n n xs xs _ HO4.out HO6.out HN.out HN.out HS.out HS.out).mono ?_
      rw [he]
      rintro e w7 ⟨rfl, hb⟩
      have HB7 := Lib.hid (more HB6.out (Nat.le_refl _) hb)
      clear hb
      go_wp2_with fail
      go_ret
      exact ⟨rfl, HB7.out⟩

set_option maxRecDepth 100000 in
theorem contract (H : Type) (enc : TypeId × Value → H) (W : World) (base : Nat) (args : Array Value) (ds gs : List (DataW H)) (before : List MemPlace)
    (hval : ∀ (j : Nat) t v, Try.f9.params[j]? = some t → args[j]? = some v → Value.okWide Try.prog W .any base t v)
    (hW : DataW.Whole enc Try.prog Try.f9.params.toList Rows.fnExactStoreOkSpec.vars false W args.toList ds gs before) :
    Calls Try.prog 9 args W fun e W' => ∃ v, e = .returned v ∧ Rows.fnExactStoreOkSpec.post enc Try.prog Try.f9 false true false false W args v W' := by
  have hW' := hW
  obtain ⟨p, q, hA0, hV, rfl, hfz, hnd⟩ := hW
  have hA : DataW.TrodAll enc Try.prog W 0 (fun _ => true) true Try.f9.params.toList args.toList ds p := hA0
  rw [Try.params9] at hA hval
  obtain ⟨v0, vs0, d0, ds0, p0, q0, hargs, rfl, rfl, h0, r0⟩ := trodAll_cons hA
  obtain ⟨rfl, rfl, rfl⟩ := trodAll_nil r0
  obtain rfl : args = #[v0] := by cases args; simp_all
  obtain ⟨rfl, rfl⟩ := trodVars_none hV
  obtain ⟨A0, c0, xs0, rfl, hs0, hcap0, hx0, hst0⟩ := open_cells (hval 0 _ v0 rfl rfl) h0 (fun x hx => by simpa using hW'.lt x (by simp [hx]))
  exact (walk A0 c0 xs0 W hs0 hx0 hst0).mono fun e W' ⟨he, hB⟩ => ⟨_, he, law_post rfl rfl hW' laidOut (of_decide_eq_true (by kernel_rfl)) rfl Try.underlying4 hB⟩

set_option maxRecDepth 100000 in
theorem lifted (os : Os) (started : os.Started) (H : Type) (enc : TypeId × Value → H) :
    ReturnsInHanded {} Try.checked os 9 .any (Rows.fnExactStoreOkSpec.pre6 enc Try.prog Try.f9 Rows.fnExactStoreOkRow.domain false) (Rows.fnExactStoreOkSpec.post enc Try.prog Try.f9 false true false false) := by
  refine returnsInHanded_of_change (C := Try.checked) own started (by kernel_rfl) Try.func9
    (ChangeSpec.witness6 (enc := enc) (C := Try.checked) false ⟨#[], #[.slice none 0 0], []⟩ 8 (by kernel_rfl) (by kernel_rfl) (by kernel_rfl) (by kernel_rfl)) ?_
  intro W base args ds gs before hval hW _ _
  exact contract H enc W base args ds gs before hval hW

set_option maxRecDepth 100000 in
theorem proved : Rows.FnExactStoreOkSaid :=
  OpenClaim.holds_of_wide 9 Try.f9 rfl rfl rfl rfl rfl rfl rfl ⟨rfl, rfl, rfl, rfl, rfl⟩ rfl rfl rfl rfl rfl (by kernel_rfl) Try.func9 (by kernel_rfl)
    (of_decide_eq_true (by kernel_rfl)) (by unfold Func.isWrapper; first | (rw [if_pos (by decide +kernel)]; kernel_rfl) | (rw [if_neg (by decide +kernel)]; exact ⟨rfl, rfl⟩))
    (fun os started H enc _ => lifted os started H enc)
end Go.Proofs.Ytamphjmggnnonaa.fnExactStoreOk
