/- The law FnStorePut answers true at every code, and leaves it as it was. No conditions. -/
import Derived.Test.YtfdejmdhcjfboaaCpy9
import Derived.Test.YtfdejmdhcjfboaaCpy12
import Derived.Test.YtfdejmdhcjfboaaKey8
namespace Go.Proofs.Ytfdejmdhcjfboaa.fnStorePut
open Go.Joins Go.ChangeShapes Go.WideShapes Go.ChangeAt Go.RowKit Go.Deep
set_option linter.unusedVariables false
set_option linter.unusedSimpArgs false

theorem lack_putI : ∀ (xs : List Ce) (x : Ce), lackV (putI xs x) x.pl = lackV xs x.pl
  | [], x => by simp [lackV, putI, cmpP_self]
  | y :: ys, x => by
    have ih := lack_putI ys x
    unfold lackV at *
    unfold putI
    rcases cmpP_vals y.pl x.pl with e | e | e
    · rw [if_pos (by omega), List.filter_cons, List.filter_cons, ih]
    · rw [if_neg (by omega), if_pos e, List.filter_cons, List.filter_cons, cmpP_self, e]
      simp
    · rw [if_neg (by omega), if_neg (by omega), List.filter_cons, cmpP_self]
      simp
theorem putV_some {xs : List Ce} {p : List Sl} {vs : List Va} {ys : List Ce} (h : putV xs p vs = some ys) : storeB ys = true ∧ getV ys p = some vs ∧ lackV ys p = lackV xs p := by
  unfold putV at h
  split at h
  · rename_i hc
    simp only [Bool.and_eq_true] at hc
    obtain ⟨h1, h2, h3, h4⟩ := hc
    split at h
    · rename_i hlen
      have he : putS xs ⟨p, vs⟩ = ys := by injection h
      have hrun : runS none xs = true := by unfold storeB at h1; rw [Bool.and_eq_true] at h1; exact h1.2
      have hsb : statesB vs = true := by unfold statesB; rw [h3, h4]; rfl
      have hr : runS none ys = true := by rw [← he, putS_putI]; exact putI_ok xs ⟨p, vs⟩ none hrun h2 hsb (fun q' e => by cases e)
      have hok : storeB ys = true := by unfold storeB; rw [hr, ← he, decide_eq_true hlen]; rfl
      have hm : (⟨p, vs⟩ : Ce) ∈ ys := by rw [← he]; unfold putS; simp
      obtain ⟨i, hi⟩ := List.getElem?_of_mem hm
      exact ⟨hok, getV_at hok hi, by rw [← he, putS_putI]; exact lack_putI xs ⟨p, vs⟩⟩
    · cases h
  · cases h
set_option maxHeartbeats 2000000 in
theorem walk (A : Option Addr) (len cap : Nat) (w : World) (hc : Code w w.heap.size A len) (hl : len ≤ maxLen) :
    Calls Try.prog 15 #[.slice A len cap] w fun e w' => e = .returned (.bool true) ∧ Below w.heap.size w w' := by
  have HC := Lib.hid hc
  have HLN := Lib.hid hl
  unfold maxLen at hl
  clear hc
  by_cases hbig : (1048576 : Int) < len
  · go_enter Try.func15, Try.ntmps15
    go_wp2_with fail
    go_ret
    exact ⟨rfl, by go_grown⟩
  · have hd : decide ((1048576 : Int) < len) = false := by simp; omega
    go_enter Try.func15, Try.ntmps15
    go_wp2_with fail
    refine (DrawStorePut_any A len cap w HC.out HLN.out).mono ?_
    rintro e w1 ⟨b, c, L, xs, b', c', p, b2, c2, vs, rfl, ho, hw, hx4, hg, hp, hp22, hv, hv4, hgl, hB⟩
    obtain ⟨n, hn⟩ : ∃ n, xs.length = n := ⟨_, rfl⟩
    obtain ⟨m, hm⟩ : ∃ m, p.length = m := ⟨_, rfl⟩
    obtain ⟨k, hk⟩ : ∃ k, vs.length = k := ⟨_, rfl⟩
    rw [hn] at hx4 ho ⊢
    rw [hm] at hp22 ⊢
    rw [hk] at hv4 ⊢
    have hnc := row_cap ho
    have HX := Lib.hid (CeN.of_sto ho hw hn hg.small)
    have HP := Lib.hid hp.lies
    have HV := Lib.hid hv.lies
    have HG := Lib.hid hg.small
    have HB1 := Lib.hid hB
    have HN := Lib.hid hn
    have HM := Lib.hid hm
    have HK := Lib.hid hk
    have HL1 := Lib.hid (show n ≤ maxLen by unfold maxLen; omega)
    have HL2 := Lib.hid (show m ≤ maxLen by unfold maxLen; omega)
    have HL3 := Lib.hid (show k ≤ maxLen by unfold maxLen; omega)
    have hz1 := hB.size
    clear ho hw hg hp hv hgl hB hn hm hk
    have ki := fun w hx hp hv => iput_any b c n b' 0 c' b2 0 c2 m k xs p vs w hx HN.out hnc HL1.out hp HM.out HL2.out hv HK.out HL3.out
    have ks := fun w hx hp hv => sput_any b c n b' 0 c' b2 0 c2 m k xs p vs w hx HN.out hnc HL1.out hp HM.out HL2.out hv HK.out HL3.out
    cases hr : putV xs p vs
    · rw [hr] at ki ks
      have KI := Lib.hid ki
      have KS := Lib.hid ks
      clear ki ks hr
      go_wp2_with fail
      refine (KI.out w1 HX.out HP.out HV.out).mono ?_
      rintro e w2 ⟨hb, rfl⟩
      replace HX := Lib.hid (HX.out.below hb)
      replace HP := Lib.hid (HP.out.below hb)
      replace HV := Lib.hid (HV.out.below hb)
      have HB2 := Lib.hid (more HB1.out (Nat.le_refl _) hb)
      have hz2 := HB2.out.size
      clear hb
      go_wp2_with fail
      refine (KS.out w2 HX.out HP.out HV.out).mono ?_
      rintro e w3 ⟨hb, rfl⟩
      have HB3 := Lib.hid (more HB2.out (Nat.le_refl _) hb)
      have hz3 := HB3.out.size
      clear hb
      go_wp2_with fail
      refine (sameStore2_eq none none 0 0 0 [] w3 CeL.nil CeL.nil rfl (by decide)).mono ?_
      rintro e w4 ⟨rfl, hb⟩
      have HB4 := Lib.hid (more HB3.out (Nat.le_refl _) hb)
      have hz4 := HB4.out.size
      clear hb
      go_wp2_with fail
      go_ret
      exact ⟨rfl, HB4.out⟩
    · rename_i ys
      obtain ⟨hok, hget, hlk⟩ := putV_some hr
      rw [hr] at ki ks
      have KI := Lib.hid ki
      have KS := Lib.hid ks
      have hy2 := store_len hok
      obtain ⟨j, hj⟩ : ∃ j, ys.length = j := ⟨_, rfl⟩
      rw [hj] at hy2
      have HYS := Lib.hid (SmallC.of_ok hok)
      have HJ := Lib.hid hj
      have HL4 := Lib.hid (show j ≤ maxLen by unfold maxLen; omega)
      have kg := fun w hx hp => iget_any (some ⟨b', 0, none⟩) (some ⟨b', 0, none⟩) c' c' j m ys p w hx hp HJ.out HM.out HL4.out HL2.out (fun x hx => by have := HYS.out x hx; omega)
      have kg := fun A d w hx hp => iget_any A (some ⟨b', 0, none⟩) d c' j m ys p w hx hp HJ.out HM.out HL4.out HL2.out (fun x hx => by have := HYS.out x hx; omega)
      have kok := fun A d w hx => istore_any A d j ys w hx HJ.out HL4.out
      have kl1 := fun A d w hx hp => lacking_any A (some ⟨b', 0, none⟩) d c' j m ys p w hx hp HJ.out HM.out (by omega) HL2.out HYS.out
      have kl2 := fun A d w hx hp => lacking_any A (some ⟨b', 0, none⟩) d c' n m xs p w hx hp HN.out HM.out (by omega) HL2.out HG.out
      rw [hget] at kg
      rw [hok] at kok
      rw [hlk] at kl1
      have HZS := Lib.hid (show SmallC (lackV xs p) from fun x hx => HG.out x (List.mem_filter.1 hx).1)
      have hql : (lackV xs p).length ≤ n := by rw [← HN.out]; exact List.length_filter_le _ _
      obtain ⟨zs, hzs⟩ : ∃ zs, lackV xs p = zs := ⟨_, rfl⟩
      rw [hzs] at kl1 kl2 HZS hql
      obtain ⟨q, hq⟩ : ∃ q, zs.length = q := ⟨_, rfl⟩
      rw [hq] at hql
      have HQ := Lib.hid hq
      have HL5 := Lib.hid (show q ≤ maxLen by unfold maxLen; omega)
      have KG := Lib.hid kg
      have KOK := Lib.hid kok
      have KL1 := Lib.hid kl1
      have KL2 := Lib.hid kl2
      clear ki ks kg kok kl1 kl2 hr hok hget hlk hj hzs hq
      go_wp2_with fail
      refine (KI.out w1 HX.out HP.out HV.out).mono ?_
      rintro e w2 ⟨hb, b5, d5, L5, rfl, ho, hw⟩
      replace HX := Lib.hid (HX.out.below hb)
      replace HP := Lib.hid (HP.out.below hb)
      replace HV := Lib.hid (HV.out.below hb)
      rw [HJ.out] at ho ⊢
      have HI := Lib.hid (CeN.of_sto ho hw HJ.out HYS.out)
      clear ho hw
      have HB2 := Lib.hid (more HB1.out (Nat.le_refl _) hb)
      have hz2 := HB2.out.size
      clear hb
      go_wp2_with fail
      refine (KS.out w2 HX.out HP.out HV.out).mono ?_
      rintro e w3 ⟨hb, b6, d6, L6, rfl, ho, hw⟩
      replace HX := Lib.hid (HX.out.below hb)
      replace HP := Lib.hid (HP.out.below hb)
      replace HV := Lib.hid (HV.out.below hb)
      replace HI := Lib.hid (HI.out.below hb)
      rw [HJ.out] at ho ⊢
      have HS6 := Lib.hid (CeN.of_sto ho hw HJ.out HYS.out)
      clear ho hw
      have HB3 := Lib.hid (more HB2.out (Nat.le_refl _) hb)
      have hz3 := HB3.out.size
      clear hb
      go_wp2_with fail
      refine (sameStore2_eq (some ⟨b5, 0, none⟩) (some ⟨b6, 0, none⟩) d5 d6 j ys w3 HI.out.cel HS6.out.cel HJ.out HL4.out).mono ?_
      rintro e w4 ⟨rfl, hb⟩
      replace HX := Lib.hid (HX.out.below hb)
      replace HP := Lib.hid (HP.out.below hb)
      replace HV := Lib.hid (HV.out.below hb)
      replace HI := Lib.hid (HI.out.below hb)
      have HB4 := Lib.hid (more HB3.out (Nat.le_refl _) hb)
      have hz4 := HB4.out.size
      clear hb
      go_wp2_with fail
      refine (KG.out (some ⟨b5, 0, none⟩) d5 w4 HI.out HP.out).mono ?_
      rintro e w5 ⟨hb, b7, d7, rfl, ho⟩
      replace HX := Lib.hid (HX.out.below hb)
      replace HP := Lib.hid (HP.out.below hb)
      replace HV := Lib.hid (HV.out.below hb)
      replace HI := Lib.hid (HI.out.below hb)
      rw [HK.out]
      have HV7 := Lib.hid ho.lies
      clear ho
      have HB5 := Lib.hid (more HB4.out (Nat.le_refl _) hb)
      have hz5 := HB5.out.size
      clear hb
      go_wp2_with fail
      refine (KOK.out (some ⟨b5, 0, none⟩) d5 w5 HI.out.cel).mono ?_
      rintro e w6 ⟨rfl, hb⟩
      replace HX := Lib.hid (HX.out.below hb)
      replace HP := Lib.hid (HP.out.below hb)
      replace HV := Lib.hid (HV.out.below hb)
      replace HI := Lib.hid (HI.out.below hb)
      replace HV7 := Lib.hid (HV7.out.below hb)
      have HB6 := Lib.hid (more HB5.out (Nat.le_refl _) hb)
      have hz6 := HB6.out.size
      clear hb
      go_wp2_with fail
      refine (sameVals_eq (some ⟨b7, 0, none⟩) (some ⟨b2, 0, none⟩) d7 c2 k vs w6 HV7.out HV.out HK.out HL3.out).mono ?_
      rintro e w7 ⟨rfl, hb⟩
      replace HX := Lib.hid (HX.out.below hb)
      replace HP := Lib.hid (HP.out.below hb)
      replace HI := Lib.hid (HI.out.below hb)
      have HB7 := Lib.hid (more HB6.out (Nat.le_refl _) hb)
      have hz7 := HB7.out.size
      clear hb
      go_wp2_with fail
      refine (KL1.out (some ⟨b5, 0, none⟩) d5 w7 HI.out HP.out).mono ?_
      rintro e w8 ⟨hb, b8, d8, L8, rfl, ho, hw⟩
      replace HX := Lib.hid (HX.out.below hb)
      replace HP := Lib.hid (HP.out.below hb)
      rw [HQ.out] at ho ⊢
      have HZ1 := Lib.hid (CeN.of_sto ho hw HQ.out HZS.out)
      clear ho hw
      have HB8 := Lib.hid (more HB7.out (Nat.le_refl _) hb)
      have hz8 := HB8.out.size
      clear hb
      go_wp2_with fail
      refine (KL2.out (some ⟨b, 0, none⟩) c w8 HX.out HP.out).mono ?_
      rintro e w9 ⟨hb, b9, d9, L9, rfl, ho, hw⟩
      replace HZ1 := Lib.hid (HZ1.out.below hb)
      rw [HQ.out] at ho ⊢
      have HZ2 := Lib.hid (CeN.of_sto ho hw HQ.out HZS.out)
      clear ho hw
      have HB9 := Lib.hid (more HB8.out (Nat.le_refl _) hb)
      have hz9 := HB9.out.size
      clear hb
      go_wp2_with fail
      refine (sameStore2_eq (some ⟨b8, 0, none⟩) (some ⟨b9, 0, none⟩) d8 d9 q zs w9 HZ1.out.cel HZ2.out.cel HQ.out HL5.out).mono ?_
      rintro e w10 ⟨rfl, hb⟩
      have HB10 := Lib.hid (more HB9.out (Nat.le_refl _) hb)
      have hz10 := HB10.out.size
      clear hb
      go_wp2_with fail
      go_ret
      exact ⟨rfl, HB10.out⟩

set_option maxRecDepth 100000 in
theorem contract (H : Type) (enc : TypeId × Value → H) (W : World) (base : Nat) (args : Array Value) (ds gs : List (DataW H)) (before : List MemPlace)
    (hval : ∀ (j : Nat) t v, Try.f15.params[j]? = some t → args[j]? = some v → Value.okWide Try.prog W .any base t v)
    (hW : DataW.Whole enc Try.prog Try.f15.params.toList Rows.fnStorePutSpec.vars false W args.toList ds gs before) :
    Calls Try.prog 15 args W fun e W' => ∃ v, e = .returned v ∧ Rows.fnStorePutSpec.post enc Try.prog Try.f15 false true false false W args v W' := by
  have hW' := hW
  obtain ⟨p, q, hA0, hV, rfl, hfz, hnd⟩ := hW
  have hA : DataW.TrodAll enc Try.prog W 0 (fun _ => true) true Try.f15.params.toList args.toList ds p := hA0
  rw [Try.params15] at hA hval
  obtain ⟨v0, vs0, d0, ds0, p0, q0, hargs, rfl, rfl, h0, r0⟩ := trodAll_cons hA
  obtain ⟨rfl, rfl, rfl⟩ := trodAll_nil r0
  obtain rfl : args = #[v0] := by cases args; simp_all
  obtain ⟨rfl, rfl⟩ := trodVars_none hV
  obtain ⟨A0, l0, c0, rfl, hs0, hc0⟩ := open_bytes (hval 0 _ v0 rfl rfl) h0 (fun x hx => by simpa using hW'.lt x (by simp [hx]))
  exact (walk A0 l0 c0 W hc0 hs0).mono fun e W' ⟨he, hB⟩ => ⟨_, he, law_post rfl rfl hW' laidOut (of_decide_eq_true (by kernel_rfl)) rfl Try.underlying4 hB⟩

set_option maxRecDepth 100000 in
theorem lifted (os : Os) (started : os.Started) (H : Type) (enc : TypeId × Value → H) :
    ReturnsInHanded {} Try.checked os 15 .any (Rows.fnStorePutSpec.pre6 enc Try.prog Try.f15 Rows.fnStorePutRow.domain false) (Rows.fnStorePutSpec.post enc Try.prog Try.f15 false true false false) := by
  refine returnsInHanded_of_change (C := Try.checked) own started (by kernel_rfl) Try.func15
    (ChangeSpec.witness6 (enc := enc) (C := Try.checked) false ⟨#[], #[.slice none 0 0], []⟩ 8 (by kernel_rfl) (by kernel_rfl) (by kernel_rfl) (by kernel_rfl)) ?_
  intro W base args ds gs before hval hW _ _
  exact contract H enc W base args ds gs before hval hW

set_option maxRecDepth 100000 in
theorem proved : Rows.FnStorePutSaid :=
  OpenClaim.holds_of_wide 15 Try.f15 rfl rfl rfl rfl rfl rfl rfl ⟨rfl, rfl, rfl, rfl, rfl⟩ rfl rfl rfl rfl rfl (by kernel_rfl) Try.func15 (by kernel_rfl)
    (of_decide_eq_true (by kernel_rfl)) (by unfold Func.isWrapper; first | (rw [if_pos (by decide +kernel)]; kernel_rfl) | (rw [if_neg (by decide +kernel)]; exact ⟨rfl, rfl⟩))
    (fun os started H enc _ => lifted os started H enc)
end Go.Proofs.Ytfdejmdhcjfboaa.fnStorePut
