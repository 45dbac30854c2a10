/- The law FnStoreCut answers true at every code, and leaves it as it was. No conditions. -/
import Derived.Test.YtfdejmdhcjfboaaCpy10
import Derived.Test.YtfdejmdhcjfboaaCpy12
import Derived.Test.YtfdejmdhcjfboaaKey12
import Derived.Test.YtfdejmdhcjfboaaSpc2
namespace Go.Proofs.Ytfdejmdhcjfboaa.fnStoreCut
open Go.Joins Go.ChangeShapes Go.WideShapes Go.ChangeAt Go.RowKit Go.Deep
set_option linter.unusedVariables false
set_option linter.unusedSimpArgs false

theorem runS_drop {q : Option (List Sl)} {x : Ce} {xs : List Ce} (h : runS q (x :: xs) = true) : runS q xs = true := by
  obtain ⟨_, hr⟩ := runS_cons h
  have hq := runS_head h
  cases xs with
  | nil => rfl
  | cons y ys =>
    obtain ⟨⟨h1, h2, _⟩, hr'⟩ := runS_cons hr
    exact runS_mk h1 h2 (fun q' e => cmpP_lt_trans q' x.pl y.pl (hq q' e) (runS_head hr x.pl rfl)) hr'
theorem runS_filter (f : Ce → Bool) : ∀ (xs : List Ce) (q : Option (List Sl)), runS q xs = true → runS q (xs.filter f) = true
  | [], _, _ => rfl
  | x :: xs, q, h => by
    obtain ⟨⟨h1, h2, _⟩, hr⟩ := runS_cons h
    rw [List.filter_cons]
    split
    · exact runS_mk h1 h2 (runS_head h) (runS_filter f xs _ hr)
    · exact runS_filter f xs q (runS_drop h)
theorem cutL_ok {xs : List Ce} {p : List Sl} (h : storeB xs = true) : storeB (cutL xs p) = true := by
  have hl := store_len h
  unfold storeB at h ⊢
  rw [Bool.and_eq_true] at h ⊢
  exact ⟨decide_eq_true (Nat.le_trans (List.length_filter_le _ _) hl), runS_filter _ xs none h.2⟩
theorem cutL_twice (xs : List Ce) (p : List Sl) : cutL (cutL xs p) p = cutL xs p := by
  unfold cutL
  rw [List.filter_filter]
  congr 1
  funext x
  simp
set_option maxHeartbeats 2000000 in
theorem walk (A : Option Addr) (len cap : Nat) (w : World) (hc : Code w w.heap.size A len) (hl : len ≤ maxLen) :
    Calls Try.prog 16 #[.slice A len cap] w fun e w' => e = .returned (.bool true) ∧ Below w.heap.size w w' := by
  have HC := Lib.hid hc
  have HLN := Lib.hid hl
  unfold maxLen at hl
  clear hc
  by_cases hbig : (1048576 : Int) < len
  · go_enter Try.func16, Try.ntmps16
    go_wp2_with fail
    go_ret
    exact ⟨rfl, by go_grown⟩
  · have hd : decide ((1048576 : Int) < len) = false := by simp; omega
    go_enter Try.func16, Try.ntmps16
    go_wp2_with fail
    refine (DrawStoreCut_any A len cap w HC.out HLN.out).mono ?_
    rintro e w1 ⟨b, c, L, xs, b', c', p, rfl, ho, hw, hx4, hg, hp, hp22, hB⟩
    obtain ⟨n, hn⟩ : ∃ n, xs.length = n := ⟨_, rfl⟩
    obtain ⟨m, hm⟩ : ∃ m, p.length = m := ⟨_, rfl⟩
    rw [hn] at hx4 ho ⊢
    rw [hm] at hp22 ⊢
    have HX := Lib.hid (CeN.of_sto ho hw hn hg.small)
    have HP := Lib.hid hp.lies
    have HG := Lib.hid hg.small
    have HB1 := Lib.hid hB
    have HN := Lib.hid hn
    have HM := Lib.hid hm
    have HL1 := Lib.hid (show n ≤ maxLen by unfold maxLen; omega)
    have HL2 := Lib.hid (show m ≤ maxLen by unfold maxLen; omega)
    have hz1 := hB.size
    clear ho hw hg hp hB hn hm
    have ki := fun A d j ys w hx hp hn hl => icut_any A (some ⟨b', 0, none⟩) d c' j m ys p w hx hp hn HM.out hl HL2.out
    have ki1 := fun w hx hp => ki (some ⟨b, 0, none⟩) c n xs w hx hp HN.out HL1.out
    have ks := fun w hx hp => scut_any (some ⟨b, 0, none⟩) (some ⟨b', 0, none⟩) c c' n m xs p w hx hp HN.out HM.out HL1.out HL2.out
    have ko := fun w hx => istore_any (some ⟨b, 0, none⟩) c n xs w hx HN.out HL1.out
    have kp := fun w hx => iplace_n (some ⟨b', 0, none⟩) c' m p w hx HM.out HL2.out
    have hcv : cutV xs p = if (storeB xs && placeB p) = true then some (cutL xs p) else none := rfl
    obtain ⟨s, hs⟩ : ∃ s, storeB xs = s := ⟨_, rfl⟩
    obtain ⟨t, ht⟩ : ∃ t, placeB p = t := ⟨_, rfl⟩
    rw [hs] at ko
    rw [ht] at kp
    rw [hs, ht] at hcv
    have KO := Lib.hid ko
    have KP := Lib.hid kp
    have KJ := Lib.hid ki
    have HS := Lib.hid hs
    have HT := Lib.hid ht
    clear ko kp ki hs ht
    cases s
    · have hcv : cutV xs p = none := hcv
      rw [hcv] at ki1 ks
      have KI := Lib.hid ki1
      have KS := Lib.hid ks
      clear ki1 ks hcv
      go_wp2_with fail
      refine (KI.out w1 HX.out HP.out).mono ?_
      rintro e w2 ⟨hb, rfl⟩
      replace HX := Lib.hid (HX.out.below hb)
      replace HP := Lib.hid (HP.out.below hb)
      have HB2 := Lib.hid (more HB1.out (Nat.le_refl _) hb)
      have hz2 := HB2.out.size
      clear hb
      go_wp2_with fail
      refine (KS.out w2 HX.out HP.out).mono ?_
      rintro e w3 ⟨hb, rfl⟩
      replace HX := Lib.hid (HX.out.below hb)
      replace HP := Lib.hid (HP.out.below hb)
      have HB3 := Lib.hid (more HB2.out (Nat.le_refl _) hb)
      have hz3 := HB3.out.size
      clear hb
      go_wp2_with fail
      refine (sameStore2_eq none none 0 0 0 [] w3 CeL.nil CeL.nil rfl (by decide)).mono ?_
      rintro e w4 ⟨rfl, hb⟩
      replace HX := Lib.hid (HX.out.below hb)
      replace HP := Lib.hid (HP.out.below hb)
      have HB4 := Lib.hid (more HB3.out (Nat.le_refl _) hb)
      have hz4 := HB4.out.size
      clear hb
      go_wp2_with fail
      refine (KO.out w4 HX.out.cel).mono ?_
      rintro e w5 ⟨rfl, hb⟩
      have HB5 := Lib.hid (more HB4.out (Nat.le_refl _) hb)
      have hz5 := HB5.out.size
      clear hb
      go_wp2_with fail
      go_ret
      exact ⟨rfl, HB5.out⟩
    cases t
    · have hcv : cutV xs p = none := hcv
      rw [hcv] at ki1 ks
      have KI := Lib.hid ki1
      have KS := Lib.hid ks
      clear ki1 ks hcv
      go_wp2_with fail
      refine (KI.out w1 HX.out HP.out).mono ?_
      rintro e w2 ⟨hb, rfl⟩
      replace HX := Lib.hid (HX.out.below hb)
      replace HP := Lib.hid (HP.out.below hb)
      have HB2 := Lib.hid (more HB1.out (Nat.le_refl _) hb)
      have hz2 := HB2.out.size
      clear hb
      go_wp2_with fail
      refine (KS.out w2 HX.out HP.out).mono ?_
      rintro e w3 ⟨hb, rfl⟩
      replace HX := Lib.hid (HX.out.below hb)
      replace HP := Lib.hid (HP.out.below hb)
      have HB3 := Lib.hid (more HB2.out (Nat.le_refl _) hb)
      have hz3 := HB3.out.size
      clear hb
      go_wp2_with fail
      refine (sameStore2_eq none none 0 0 0 [] w3 CeL.nil CeL.nil rfl (by decide)).mono ?_
      rintro e w4 ⟨rfl, hb⟩
      replace HX := Lib.hid (HX.out.below hb)
      replace HP := Lib.hid (HP.out.below hb)
      have HB4 := Lib.hid (more HB3.out (Nat.le_refl _) hb)
      have hz4 := HB4.out.size
      clear hb
      go_wp2_with fail
      refine (KO.out w4 HX.out.cel).mono ?_
      rintro e w5 ⟨rfl, hb⟩
      replace HP := Lib.hid (HP.out.below hb)
      have HB5 := Lib.hid (more HB4.out (Nat.le_refl _) hb)
      have hz5 := HB5.out.size
      clear hb
      go_wp2_with fail
      refine (KP.out w5 HP.out).mono ?_
      rintro e w6 ⟨rfl, hb⟩
      have HB6 := Lib.hid (more HB5.out (Nat.le_refl _) hb)
      have hz6 := HB6.out.size
      clear hb
      go_wp2_with fail
      go_ret
      exact ⟨rfl, HB6.out⟩
    · have hcv : cutV xs p = some (cutL xs p) := hcv
      rw [hcv] at ki1 ks
      have hok := cutL_ok (p := p) HS.out
      have hcv2 : cutV (cutL xs p) p = some (cutL xs p) := by unfold cutV; rw [hok, HT.out, cutL_twice]; rfl
      have hun : ∀ x ∈ cutL xs p, underB x.pl p = false := fun x hx => by
        have := (List.mem_filter.1 hx).2
        simpa using this
      have hsm : SmallC (cutL xs p) := fun x hx => HG.out x (List.mem_filter.1 hx).1
      have hjl : (cutL xs p).length ≤ n := by rw [← HN.out]; exact List.length_filter_le _ _
      obtain ⟨ys, hys⟩ : ∃ ys, cutL xs p = ys := ⟨_, rfl⟩
      rw [hys] at ki1 ks hok hcv2 hun hsm hjl
      obtain ⟨j, hj⟩ : ∃ j, ys.length = j := ⟨_, rfl⟩
      rw [hj] at hjl
      have HJ := Lib.hid hj
      have HL3 := Lib.hid (show j ≤ maxLen by unfold maxLen; omega)
      have KI := Lib.hid ki1
      have KS := Lib.hid ks
      have HOK := Lib.hid hok
      have HCV := Lib.hid hcv2
      have HUN := Lib.hid hun
      have HSM := Lib.hid hsm
      clear ki1 ks hcv hcv2 hun hsm hok hys hj
      go_wp2_with fail
      refine (KI.out w1 HX.out HP.out).mono ?_
      rintro e w2 ⟨hb, A2, d2, rfl, ho, hcap⟩
      replace HX := Lib.hid (HX.out.below hb)
      replace HP := Lib.hid (HP.out.below hb)
      rw [HJ.out] at hcap ⊢
      have HI := Lib.hid ho
      clear ho
      have HB2 := Lib.hid (more HB1.out (Nat.le_refl _) hb)
      have hz2 := HB2.out.size
      clear hb
      go_wp2_with fail
      refine (KS.out w2 HX.out HP.out).mono ?_
      rintro e w3 ⟨hb, b3, d3, L3, rfl, ho, hw⟩
      replace HX := Lib.hid (HX.out.below hb)
      replace HP := Lib.hid (HP.out.below hb)
      replace HI := Lib.hid (HI.out.below hb)
      rw [HJ.out] at ho ⊢
      have HZ := Lib.hid (CeN.of_sto ho hw HJ.out HSM.out)
      clear ho hw
      have HB3 := Lib.hid (more HB2.out (Nat.le_refl _) hb)
      have hz3 := HB3.out.size
      clear hb
      go_wp2_with fail
      refine (sameStore2_eq A2 (some ⟨b3, 0, none⟩) d2 d3 j ys w3 HI.out.cel HZ.out.cel HJ.out HL3.out).mono ?_
      rintro e w4 ⟨rfl, hb⟩
      replace HX := Lib.hid (HX.out.below hb)
      replace HP := Lib.hid (HP.out.below hb)
      replace HI := Lib.hid (HI.out.below hb)
      have HB4 := Lib.hid (more HB3.out (Nat.le_refl _) hb)
      have hz4 := HB4.out.size
      clear hb
      go_wp2_with fail
      refine (KO.out w4 HX.out.cel).mono ?_
      rintro e w5 ⟨rfl, hb⟩
      replace HP := Lib.hid (HP.out.below hb)
      replace HI := Lib.hid (HI.out.below hb)
      have HB5 := Lib.hid (more HB4.out (Nat.le_refl _) hb)
      have hz5 := HB5.out.size
      clear hb
      go_wp2_with fail
      refine (KP.out w5 HP.out).mono ?_
      rintro e w6 ⟨rfl, hb⟩
      replace HP := Lib.hid (HP.out.below hb)
      replace HI := Lib.hid (HI.out.below hb)
      have HB6 := Lib.hid (more HB5.out (Nat.le_refl _) hb)
      have hz6 := HB6.out.size
      clear hb
      go_wp2_with fail
      go_loopw [8] (fun i wr => ∃ k : Nat, k ≤ j ∧ i = .int .i64 k ∧ Hid (Below w6.heap.size w6 wr)) (fun i _ => j - (intOf i).toNat)
      case atStart => exact ⟨0, by omega, rfl, Lib.hid (Below.refl _ _)⟩
      case round =>
        obtain ⟨k, hk, rfl, HBR⟩ := hrel
        by_cases hlt : k < j
        · obtain ⟨x, hx⟩ := at_some (show k < ys.length by rw [HJ.out]; exact hlt)
          have HXR := Lib.hid (HI.out.below HBR.out)
          obtain ⟨b4, off, rfl, hblt, hcell⟩ := HXR.out (by have := HJ.out; omega)
          obtain ⟨b0, o0, c0, b1, o1, c1, hat⟩ := hcell k x hx
          have e0 := hat.e0
          have hi1 : (0 : Int) ≤ (k : Int) := by omega
          have hi2 : (k : Int) < (j : Int) := by omega
          have KU := Lib.hid (iunder_n (some ⟨b0, o0, none⟩) (some ⟨b', 0, none⟩) c0 c' _ m x.pl p false wr hat.pl (HP.out.below HBR.out) rfl HM.out hat.n0 HL2.out hat.m0 (by rw [HUN.out x (List.mem_of_getElem? hx), Bool.and_false]))
          clear hcell hx hat
          go_wp2_with fail
          refine KU.out.mono ?_
          rintro e w7 ⟨rfl, hb⟩
          have HB7 := Lib.hid (HBR.out.trans (hb.mono HBR.out.size))
          clear hb KU
          go_wp2_with fail
          go_roundw
          case rel => exact ⟨k + 1, by omega, by go_num, HB7⟩
          case measure => simp [intOf]; omega
        · have HI7 := Lib.hid (HI.out.below HBR.out)
          have HP7 := Lib.hid (HP.out.below HBR.out)
          have HBW := Lib.hid (HB6.out.trans (HBR.out.mono hz6))
          have kc := KJ.out A2 d2 j ys wr HI7.out HP7.out HJ.out HL3.out
          rw [HCV.out] at kc
          have KC := Lib.hid kc
          clear kc
          go_wp2_with fail
          refine KC.out.mono ?_
          rintro e w7 ⟨hb, A7, d7, rfl, ho, hcap7⟩
          rw [HJ.out] at hcap7 ⊢
          have HB7 := Lib.hid (more HBW.out (Nat.le_refl _) hb)
          have HI8 := Lib.hid (HI7.out.below hb)
          have HZ8 := Lib.hid ho
          clear hb ho
          go_wp2_with fail
          refine (sameStore2_eq A7 A2 d7 d2 j ys w7 HZ8.out.cel HI8.out.cel HJ.out HL3.out).mono ?_
          rintro e w8 ⟨rfl, hb⟩
          have HB8 := Lib.hid (more HB7.out (Nat.le_refl _) hb)
          have HI9 := Lib.hid (HI8.out.below hb)
          clear hb
          have ko := istore_any A2 d2 j ys w8 HI9.out.cel HJ.out HL3.out
          rw [HOK.out] at ko
          have KO2 := Lib.hid ko
          clear ko
          go_wp2_with fail
          refine KO2.out.mono ?_
          rintro e w9 ⟨rfl, hb⟩
          have HB9 := Lib.hid (more HB8.out (Nat.le_refl _) hb)
          clear hb
          go_wp2_with fail
          go_ret
          exact ⟨rfl, HB9.out⟩

set_option maxRecDepth 100000 in
theorem contract (H : Type) (enc : TypeId × Value → H) (W : World) (base : Nat) (args : Array Value) (ds gs : List (DataW H)) (before : List MemPlace)
    (hval : ∀ (j : Nat) t v, Try.f16.params[j]? = some t → args[j]? = some v → Value.okWide Try.prog W .any base t v)
    (hW : DataW.Whole enc Try.prog Try.f16.params.toList Rows.fnStoreCutSpec.vars false W args.toList ds gs before) :
    Calls Try.prog 16 args W fun e W' => ∃ v, e = .returned v ∧ Rows.fnStoreCutSpec.post enc Try.prog Try.f16 false true false false W args v W' := by
  have hW' := hW
  obtain ⟨p, q, hA0, hV, rfl, hfz, hnd⟩ := hW
  have hA : DataW.TrodAll enc Try.prog W 0 (fun _ => true) true Try.f16.params.toList args.toList ds p := hA0
  rw [Try.params16] at hA hval
  obtain ⟨v0, vs0, d0, ds0, p0, q0, hargs, rfl, rfl, h0, r0⟩ := trodAll_cons hA
  obtain ⟨rfl, rfl, rfl⟩ := trodAll_nil r0
  obtain rfl : args = #[v0] := by cases args; simp_all
  obtain ⟨rfl, rfl⟩ := trodVars_none hV
  obtain ⟨A0, l0, c0, rfl, hs0, hc0⟩ := open_bytes (hval 0 _ v0 rfl rfl) h0 (fun x hx => by simpa using hW'.lt x (by simp [hx]))
  exact (walk A0 l0 c0 W hc0 hs0).mono fun e W' ⟨he, hB⟩ => ⟨_, he, law_post rfl rfl hW' laidOut (of_decide_eq_true (by kernel_rfl)) rfl Try.underlying4 hB⟩

set_option maxRecDepth 100000 in
theorem lifted (os : Os) (started : os.Started) (H : Type) (enc : TypeId × Value → H) :
    ReturnsInHanded {} Try.checked os 16 .any (Rows.fnStoreCutSpec.pre6 enc Try.prog Try.f16 Rows.fnStoreCutRow.domain false) (Rows.fnStoreCutSpec.post enc Try.prog Try.f16 false true false false) := by
  refine returnsInHanded_of_change (C := Try.checked) own started (by kernel_rfl) Try.func16
    (ChangeSpec.witness6 (enc := enc) (C := Try.checked) false ⟨#[], #[.slice none 0 0], []⟩ 8 (by kernel_rfl) (by kernel_rfl) (by kernel_rfl) (by kernel_rfl)) ?_
  intro W base args ds gs before hval hW _ _
  exact contract H enc W base args ds gs before hval hW

set_option maxRecDepth 100000 in
theorem proved : Rows.FnStoreCutSaid :=
  OpenClaim.holds_of_wide 16 Try.f16 rfl rfl rfl rfl rfl rfl rfl ⟨rfl, rfl, rfl, rfl, rfl⟩ rfl rfl rfl rfl rfl (by kernel_rfl) Try.func16 (by kernel_rfl)
    (of_decide_eq_true (by kernel_rfl)) (by unfold Func.isWrapper; first | (rw [if_pos (by decide +kernel)]; kernel_rfl) | (rw [if_neg (by decide +kernel)]; exact ⟨rfl, rfl⟩))
    (fun os started H enc _ => lifted os started H enc)
end Go.Proofs.Ytfdejmdhcjfboaa.fnStoreCut
