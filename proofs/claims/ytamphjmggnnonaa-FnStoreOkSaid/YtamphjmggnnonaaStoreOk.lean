/- The law FnStoreOk answers true at every code, and leaves it as it was. No conditions. -/
import Derived.Test.YtamphjmggnnonaaCpy8
namespace Go.Proofs.Ytamphjmggnnonaa.fnStoreOk
open Go.Joins Go.ChangeShapes Go.WideShapes Go.ChangeAt Go.RowKit Go.Deep
set_option linter.unusedVariables false
set_option linter.unusedSimpArgs false

set_option maxHeartbeats 2000000 in
theorem walk (A : Option Addr) (len cap : Nat) (w : World) (hc : Code w w.heap.size A len) (hl : len ≤ maxLen) :
    Calls Try.prog 13 #[.slice A len cap] w fun e w' => e = .returned (.bool true) ∧ Below w.heap.size w w' := by
  have HC := Lib.hid hc
  have HLN := Lib.hid hl
  unfold maxLen at hl
  clear hc
  by_cases hbig : (1048576 : Int) < len
  · go_enter Try.func13, Try.ntmps13
    go_wp2_with fail
    go_ret
    exact ⟨rfl, by go_grown⟩
  · have hd : decide ((1048576 : Int) < len) = false := by simp; omega
    go_enter Try.func13, Try.ntmps13
    go_wp2_with fail
    refine (DrawStoreOk_any A len cap w HC.out HLN.out).mono ?_
    rintro e w1 ⟨b, c, xs, rfl, hx, hx4, hxc, hg, hB⟩
    obtain ⟨n, hn⟩ : ∃ n, xs.length = n := ⟨_, rfl⟩
    rw [hn] at hx4 hxc ⊢
    have HX := Lib.hid hx
    have HG := Lib.hid hg
    have HB1 := Lib.hid hB
    have HN := Lib.hid hn
    have HM := Lib.hid (show n ≤ maxLen by unfold maxLen; omega)
    clear hx hg hB hn
    obtain ⟨v, hv⟩ : ∃ v, storeB xs = v := ⟨_, rfl⟩
    have KI := Lib.hid (fun w hx => istore_any (some ⟨b, 0, none⟩) c n xs w hx HN.out HM.out)
    have KS := Lib.hid (fun w hx => sstore_any (some ⟨b, 0, none⟩) c n xs w hx HN.out HM.out)
    rw [hv] at KI KS
    have HV := Lib.hid hv
    clear hv
    go_wp2_with fail
    refine (KI.out w1 HX.out.cel).mono ?_
    rintro e w2 ⟨rfl, hb⟩
    replace HX := Lib.hid (HX.out.below hb)
    have HB2 := Lib.hid (more HB1.out (Nat.le_refl _) hb)
    clear hb
    go_wp2_with fail
    refine (KS.out w2 HX.out.cel).mono ?_
    rintro e w3 ⟨rfl, hb⟩
    replace HX := Lib.hid (HX.out.below hb)
    have HB3 := Lib.hid (more HB2.out (Nat.le_refl _) hb)
    clear hb KI KS
    cases v
    · go_wp2_with fail
      go_ret
      exact ⟨rfl, HB3.out⟩
    · go_wp2_with fail
      go_loopw [7] (fun i wr => ∃ k : Nat, k ≤ n ∧ i = .int .i64 k ∧ Hid (Below w3.heap.size w3 wr)) (fun i _ => n - (intOf i).toNat)
      case atStart => exact ⟨0, by omega, rfl, Lib.hid (Below.refl _ _)⟩
      case round =>
        obtain ⟨k, hk, rfl, HBR⟩ := hrel
        by_cases hlt : k < n
        · obtain ⟨x, hx⟩ := at_some (show k < xs.length by rw [HN.out]; exact hlt)
          have HXR := Lib.hid (HX.out.below HBR.out)
          obtain ⟨b', off, he, hblt, hcell⟩ := HXR.out (by have := HN.out; omega)
          simp only [Option.some.injEq, Addr.mk.injEq, and_true] at he
          obtain ⟨rfl, rfl⟩ := he
          obtain ⟨b0, o0, c0, b1, o1, c1, hat⟩ := hcell k x hx
          rw [Nat.zero_add] at hat
          have e0 := hat.e0
          have e1 := hat.e1
          have hgx := HG.out x (List.mem_of_getElem? hx)
          have hi1 : (0 : Int) ≤ (k : Int) := by omega
          have hi2 : (k : Int) < (n : Int) := by omega
          have K := Lib.hid (iget_any (some ⟨b, 0, none⟩) (some ⟨b0, o0, none⟩) c c0 n _ xs x.pl wr HXR.out hat.pl HN.out rfl HM.out hat.n0 (fun y hy => by have := HG.out y hy; omega))
          rw [getV_at HV.out hx] at K
          have HST := Lib.hid hat.st
          have HN1 := Lib.hid hat.n1
          clear hcell hx hat hgx
          go_wp2_with fail
          refine K.out.mono ?_
          rintro e w4 ⟨hb, b2, c2, rfl, ho⟩
          replace e0 := (hb.cell (p := ⟨b, k * 2, none⟩) hblt).trans e0
          replace e1 := (hb.cell (p := ⟨b, k * 2 + 1, none⟩) hblt).trans e1
          have K2 := Lib.hid (sameVals_eq (some ⟨b2, 0, none⟩) (some ⟨b1, o1, none⟩) c2 c1 _ x.st w4 ho.lies (HST.out.below hb) rfl HN1.out)
          have HB4 := Lib.hid (HBR.out.trans (hb.mono HBR.out.size))
          clear hb ho K
          go_wp2_with fail
          refine K2.out.mono ?_
          rintro e w5 ⟨rfl, hb⟩
          have HB5 := Lib.hid (HB4.out.trans (hb.mono HB4.out.size))
          clear hb K2
          go_wp2_with fail
          go_roundw
          case rel => exact ⟨k + 1, by omega, by go_num, HB5⟩
          case measure => simp [intOf]; omega
        · go_wp2_with fail
          go_ret
          exact ⟨rfl, HB3.out.trans (HBR.out.mono HB3.out.size)⟩

set_option maxRecDepth 100000 in
theorem contract (H : Type) (enc : TypeId × Value → H) (W : World) (base : Nat) (args : Array Value) (ds gs : List (DataW H)) (before : List MemPlace)
    (hval : ∀ (j : Nat) t v, Try.f13.params[j]? = some t → args[j]? = some v → Value.okWide Try.prog W .any base t v)
    (hW : DataW.Whole enc Try.prog Try.f13.params.toList Rows.fnStoreOkSpec.vars false W args.toList ds gs before) :
    Calls Try.prog 13 args W fun e W' => ∃ v, e = .returned v ∧ Rows.fnStoreOkSpec.post enc Try.prog Try.f13 false true false false W args v W' := by
  have hW' := hW
  obtain ⟨p, q, hA0, hV, rfl, hfz, hnd⟩ := hW
  have hA : DataW.TrodAll enc Try.prog W 0 (fun _ => true) true Try.f13.params.toList args.toList ds p := hA0
  rw [Try.params13] at hA hval
  obtain ⟨v0, vs0, d0, ds0, p0, q0, hargs, rfl, rfl, h0, r0⟩ := trodAll_cons hA
  obtain ⟨rfl, rfl, rfl⟩ := trodAll_nil r0
  obtain rfl : args = #[v0] := by cases args; simp_all
  obtain ⟨rfl, rfl⟩ := trodVars_none hV
  obtain ⟨A0, l0, c0, rfl, hs0, hc0⟩ := open_bytes (hval 0 _ v0 rfl rfl) h0 (fun x hx => by simpa using hW'.lt x (by simp [hx]))
  exact (walk A0 l0 c0 W hc0 hs0).mono fun e W' ⟨he, hB⟩ => ⟨_, he, law_post rfl rfl hW' laidOut (of_decide_eq_true (by kernel_rfl)) rfl Try.underlying4 hB⟩

set_option maxRecDepth 100000 in
theorem lifted (os : Os) (started : os.Started) (H : Type) (enc : TypeId × Value → H) :
    ReturnsInHanded {} Try.checked os 13 .any (Rows.fnStoreOkSpec.pre6 enc Try.prog Try.f13 Rows.fnStoreOkRow.domain false) (Rows.fnStoreOkSpec.post enc Try.prog Try.f13 false true false false) := by
  refine returnsInHanded_of_change (C := Try.checked) own started (by kernel_rfl) Try.func13
    (ChangeSpec.witness6 (enc := enc) (C := Try.checked) false ⟨#[], #[.slice none 0 0], []⟩ 8 (by kernel_rfl) (by kernel_rfl) (by kernel_rfl) (by kernel_rfl)) ?_
  intro W base args ds gs before hval hW _ _
  exact contract H enc W base args ds gs before hval hW

set_option maxRecDepth 100000 in
theorem proved : Rows.FnStoreOkSaid :=
  OpenClaim.holds_of_wide 13 Try.f13 rfl rfl rfl rfl rfl rfl rfl ⟨rfl, rfl, rfl, rfl, rfl⟩ rfl rfl rfl rfl rfl (by kernel_rfl) Try.func13 (by kernel_rfl)
    (of_decide_eq_true (by kernel_rfl)) (by unfold Func.isWrapper; first | (rw [if_pos (by decide +kernel)]; kernel_rfl) | (rw [if_neg (by decide +kernel)]; exact ⟨rfl, rfl⟩))
    (fun os started H enc _ => lifted os started H enc)
end Go.Proofs.Ytamphjmggnnonaa.fnStoreOk
