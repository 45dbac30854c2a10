/- The law FnStoreGet answers true at every code, and leaves it as it was. No conditions. -/
import Derived.Test.YtfdejmdhcjfboaaCpy9
import Derived.Test.YtfdejmdhcjfboaaCpy11
import Derived.Test.YtfdejmdhcjfboaaKey8
namespace Go.Proofs.Ytfdejmdhcjfboaa.fnStoreGet
open Go.Joins Go.ChangeShapes Go.WideShapes Go.ChangeAt Go.RowKit Go.Deep
set_option linter.unusedVariables false
set_option linter.unusedSimpArgs false

theorem putV_same {xs : List Ce} {p : List Sl} {vs : List Va} (h : getV xs p = some vs) : putV xs p vs = some xs ∧ vs.length ≤ 3 := by
  have hs := putS_same h
  unfold getV at h
  split at h
  · rename_i hc
    simp only [Bool.and_eq_true] at hc
    obtain ⟨x, hx⟩ := hasS_at hc.2
    rw [hx] at h
    have hst : x.st = vs := by injection h
    have hok := hc.1.1
    have hrun : runS none xs = true := by unfold storeB at hok; rw [Bool.and_eq_true] at hok; exact hok.2
    have hsb := (cell_ok xs none hrun x (List.mem_of_getElem? hx)).2
    rw [hst] at hsb
    refine ⟨?_, states_len hsb⟩
    unfold putV
    rw [hok, hc.1.2, hs, if_pos (store_len hok)]
    unfold statesB at hsb
    rw [hsb]
    rfl
  · cases h
set_option maxHeartbeats 2000000 in
theorem walk (A : Option Addr) (len cap : Nat) (w : World) (hc : Code w w.heap.size A len) (hl : len ≤ maxLen) :
    Calls Try.prog 14 #[.slice A len cap] w fun e w' => e = .returned (.bool true) ∧ Below w.heap.size w w' := by
  have HC := Lib.hid hc
  have HLN := Lib.hid hl
  unfold maxLen at hl
  clear hc
  by_cases hbig : (1048576 : Int) < len
  · go_enter Try.func14, Try.ntmps14
    go_wp2_with fail
    go_ret
    exact ⟨rfl, by go_grown⟩
  · have hd : decide ((1048576 : Int) < len) = false := by simp; omega
    go_enter Try.func14, Try.ntmps14
    go_wp2_with fail
    refine (DrawStoreGet_any A len cap w HC.out HLN.out).mono ?_
    rintro e w1 ⟨b, c, L, xs, b', c', p, rfl, ho, hw, hx4, hg, hp, hp22, hB⟩
    obtain ⟨n, hn⟩ : ∃ n, xs.length = n := ⟨_, rfl⟩
    obtain ⟨m, hm⟩ : ∃ m, p.length = m := ⟨_, rfl⟩
    rw [hn] at hx4 ho ⊢
    rw [hm] at hp22 ⊢
    have hnc := row_cap ho
    have HX := Lib.hid (CeN.of_sto ho hw hn hg.small)
    have HP := Lib.hid hp.lies
    have HG := Lib.hid hg
    have HB1 := Lib.hid hB
    have HN := Lib.hid hn
    have HM := Lib.hid hm
    have HL1 := Lib.hid (show n ≤ maxLen by unfold maxLen; omega)
    have HL2 := Lib.hid (show m ≤ maxLen by unfold maxLen; omega)
    have hz1 := hB.size
    clear ho hw hg hp hB hn hm
    have ki := fun w hx hp => iget_any (some ⟨b, 0, none⟩) (some ⟨b', 0, none⟩) c c' n m xs p w hx hp HN.out HM.out HL1.out HL2.out (fun x hx => by have := HG.out x hx; omega)
    have ks := fun w hx hp => sget_any (some ⟨b, 0, none⟩) (some ⟨b', 0, none⟩) c c' n m xs p w hx hp HN.out HM.out HL1.out HL2.out (fun x hx => by have := HG.out x hx; omega)
    cases hv : getV xs p
    · rw [hv] at ki ks
      have KI := Lib.hid ki
      have KS := Lib.hid ks
      clear ki ks hv
      go_wp2_with fail
      refine (KI.out w1 HX.out HP.out).mono ?_
      rintro e w2 ⟨hb, rfl⟩
      replace HX := Lib.hid (HX.out.below hb)
      replace HP := Lib.hid (HP.out.below hb)
      have HB2 := Lib.hid (more HB1.out (Nat.le_refl _) hb)
      have hz2 := HB2.out.size
      clear hb
      go_wp2_with fail
      refine (KS.out w2 HX.out HP.out).mono ?_
      rintro e w3 ⟨hb, rfl⟩
      replace HX := Lib.hid (HX.out.below hb)
      replace HP := Lib.hid (HP.out.below hb)
      have HB3 := Lib.hid (more HB2.out (Nat.le_refl _) hb)
      have hz3 := HB3.out.size
      clear hb
      go_wp2_with fail
      refine (sameVals_eq none none 0 0 0 [] w3 Lie.nil Lie.nil rfl (by decide)).mono ?_
      rintro e w4 ⟨rfl, hb⟩
      have HB4 := Lib.hid (more HB3.out (Nat.le_refl _) hb)
      have hz4 := HB4.out.size
      clear hb
      go_wp2_with fail
      go_ret
      exact ⟨rfl, HB4.out⟩
    · rename_i vs
      obtain ⟨hpv, hv3⟩ := putV_same hv
      rw [hv] at ki ks
      have KI := Lib.hid ki
      have KS := Lib.hid ks
      have HVL := Lib.hid (show vs.length ≤ maxLen by unfold maxLen; omega)
      have HPV := Lib.hid hpv
      clear ki ks hv hpv
      go_wp2_with fail
      refine (KI.out w1 HX.out HP.out).mono ?_
      rintro e w2 ⟨hb, b1, d1, rfl, ho⟩
      replace HX := Lib.hid (HX.out.below hb)
      replace HP := Lib.hid (HP.out.below hb)
      have HV1 := Lib.hid ho.lies
      clear ho
      have HB2 := Lib.hid (more HB1.out (Nat.le_refl _) hb)
      have hz2 := HB2.out.size
      clear hb
      go_wp2_with fail
      refine (KS.out w2 HX.out HP.out).mono ?_
      rintro e w3 ⟨hb, b2, d2, rfl, ho⟩
      replace HX := Lib.hid (HX.out.below hb)
      replace HP := Lib.hid (HP.out.below hb)
      replace HV1 := Lib.hid (HV1.out.below hb)
      have HV2 := Lib.hid ho.lies
      clear ho
      have HB3 := Lib.hid (more HB2.out (Nat.le_refl _) hb)
      have hz3 := HB3.out.size
      clear hb
      go_wp2_with fail
      refine (sameVals_eq (some ⟨b1, 0, none⟩) (some ⟨b2, 0, none⟩) d1 d2 _ vs w3 HV1.out HV2.out rfl HVL.out).mono ?_
      rintro e w4 ⟨rfl, hb⟩
      replace HX := Lib.hid (HX.out.below hb)
      replace HP := Lib.hid (HP.out.below hb)
      replace HV1 := Lib.hid (HV1.out.below hb)
      have HB4 := Lib.hid (more HB3.out (Nat.le_refl _) hb)
      have hz4 := HB4.out.size
      clear hb
      go_wp2_with fail
      have KU := Lib.hid (iput_any b c n b' 0 c' b1 0 d1 m _ xs p vs w4 HX.out HN.out hnc HL1.out HP.out HM.out HL2.out HV1.out rfl HVL.out)
      rw [HPV.out] at KU
      refine (KU.out).mono ?_
      rintro e w5 ⟨hb, b5, d5, L5, rfl, ho, hw⟩
      replace HX := Lib.hid (HX.out.below hb)
      have HS5 := Lib.hid (CeN.of_sto ho hw rfl HG.out.small)
      rw [HN.out]
      clear ho hw
      have HB5 := Lib.hid (more HB4.out (Nat.le_refl _) hb)
      have hz5 := HB5.out.size
      clear hb
      go_wp2_with fail
      refine (sameStore2_eq (some ⟨b5, 0, none⟩) (some ⟨b, 0, none⟩) d5 c n xs w5 HS5.out.cel HX.out.cel HN.out HL1.out).mono ?_
      rintro e w6 ⟨rfl, hb⟩
      have HB6 := Lib.hid (more HB5.out (Nat.le_refl _) hb)
      have hz6 := HB6.out.size
      clear hb
      go_wp2_with fail
      go_ret
      exact ⟨rfl, HB6.out⟩

set_option maxRecDepth 100000 in
theorem contract (H : Type) (enc : TypeId × Value → H) (W : World) (base : Nat) (args : Array Value) (ds gs : List (DataW H)) (before : List MemPlace)
    (hval : ∀ (j : Nat) t v, Try.f14.params[j]? = some t → args[j]? = some v → Value.okWide Try.prog W .any base t v)
    (hW : DataW.Whole enc Try.prog Try.f14.params.toList Rows.fnStoreGetSpec.vars false W args.toList ds gs before) :
    Calls Try.prog 14 args W fun e W' => ∃ v, e = .returned v ∧ Rows.fnStoreGetSpec.post enc Try.prog Try.f14 false true false false W args v W' := by
  have hW' := hW
  obtain ⟨p, q, hA0, hV, rfl, hfz, hnd⟩ := hW
  have hA : DataW.TrodAll enc Try.prog W 0 (fun _ => true) true Try.f14.params.toList args.toList ds p := hA0
  rw [Try.params14] at hA hval
  obtain ⟨v0, vs0, d0, ds0, p0, q0, hargs, rfl, rfl, h0, r0⟩ := trodAll_cons hA
  obtain ⟨rfl, rfl, rfl⟩ := trodAll_nil r0
  obtain rfl : args = #[v0] := by cases args; simp_all
  obtain ⟨rfl, rfl⟩ := trodVars_none hV
  obtain ⟨A0, l0, c0, rfl, hs0, hc0⟩ := open_bytes (hval 0 _ v0 rfl rfl) h0 (fun x hx => by simpa using hW'.lt x (by simp [hx]))
  exact (walk A0 l0 c0 W hc0 hs0).mono fun e W' ⟨he, hB⟩ => ⟨_, he, law_post rfl rfl hW' laidOut (of_decide_eq_true (by kernel_rfl)) rfl Try.underlying4 hB⟩

set_option maxRecDepth 100000 in
theorem lifted (os : Os) (started : os.Started) (H : Type) (enc : TypeId × Value → H) :
    ReturnsInHanded {} Try.checked os 14 .any (Rows.fnStoreGetSpec.pre6 enc Try.prog Try.f14 Rows.fnStoreGetRow.domain false) (Rows.fnStoreGetSpec.post enc Try.prog Try.f14 false true false false) := by
  refine returnsInHanded_of_change (C := Try.checked) own started (by kernel_rfl) Try.func14
    (ChangeSpec.witness6 (enc := enc) (C := Try.checked) false ⟨#[], #[.slice none 0 0], []⟩ 8 (by kernel_rfl) (by kernel_rfl) (by kernel_rfl) (by kernel_rfl)) ?_
  intro W base args ds gs before hval hW _ _
  exact contract H enc W base args ds gs before hval hW

set_option maxRecDepth 100000 in
theorem proved : Rows.FnStoreGetSaid :=
  OpenClaim.holds_of_wide 14 Try.f14 rfl rfl rfl rfl rfl rfl rfl ⟨rfl, rfl, rfl, rfl, rfl⟩ rfl rfl rfl rfl rfl (by kernel_rfl) Try.func14 (by kernel_rfl)
    (of_decide_eq_true (by kernel_rfl)) (by unfold Func.isWrapper; first | (rw [if_pos (by decide +kernel)]; kernel_rfl) | (rw [if_neg (by decide +kernel)]; exact ⟨rfl, rfl⟩))
    (fun os started H enc _ => lifted os started H enc)
end Go.Proofs.Ytfdejmdhcjfboaa.fnStoreGet
