/- The law FnFormNeeds answers true at every code, and leaves it as it was. No conditions. -/
import Derived.Test.YtgejhjhjdepmmaaNeeds3
import Derived.IntWalk
import Derived.BigQuiet
import Derived.Deep.QuietTactic
namespace Go.Proofs.Ytgejhjhjdepmmaa.fnFormNeeds
open Go.Joins Go.ChangeShapes Go.WideShapes Go.ChangeAt Go.RowKit Go.Deep
set_option linter.unusedVariables false
set_option linter.unusedSimpArgs false

theorem quiet_left {P : Program} {f : FuncId} {args : Array Value} {w : World} {n : Nat} {v : Value}
    (h : Calls P f args (w.drewN n) fun e w' => e = .returned v ∧ w.drewN n = w') : Calls P f args (w.drewN n) fun e w'' => e = .returned v ∧ ∃ m, w'' = w.drewN m :=
  h.mono fun _ _ ⟨he, hm⟩ => ⟨he, n, hm.symm⟩

set_option maxRecDepth 100000 in
set_option maxHeartbeats 2000000 in
theorem walk (A : Option Addr) (len cap : Nat) (w : World) (hc : Code w w.heap.size A len) (hl : len ≤ maxLen) :
    Calls Try.prog 4 #[.slice A len cap] w fun e w' => e = .returned (.bool true) ∧ Below w.heap.size w w' := by
  have HC := Lib.hid hc
  have HLN := Lib.hid hl
  unfold maxLen at hl
  clear hc
  by_cases hbig : (1048576 : Int) < len
  · go_enter Try.func4, Try.ntmps4
    go_wp2_with fail
    go_ret
    exact ⟨rfl, by go_grown⟩
  · have hd : decide ((1048576 : Int) < len) = false := by simp; omega
    go_enter Try.func4, Try.ntmps4
    go_wp2_with fail
    refine (DrawFormNeeds_any A len cap w HC.out HLN.out).mono ?_
    rintro e w1 ⟨A', c', xs, kind, rfl, hL, h10, hsame, hB⟩
    have HL := Lib.hid hL
    have HB := Lib.hid hB
    have hxl : xs.length ≤ 1000 := by omega
    have h1 := fun w h => ineeds_any A' c' xs kind w h hxl hsame
    have h2 := fun w h => sneeds_any A' c' xs kind w h hxl
    have h3 := fun z w h => hasStep_any A' c' xs kind z w h hxl
    have HLT := Lib.hid (needsL_lt xs kind)
    have HMM := Lib.hid (fun z (h : z ∈ needsL xs kind) => needsL_mem h)
    have h12 := needsL_len xs kind
    generalize needsL xs kind = zs at h1 h2 HLT HMM h12
    have H1 := Lib.hid h1
    have H2 := Lib.hid h2
    have H3 := Lib.hid h3
    clear hL hB h1 h2 h3 hsame
    go_wp2_with fail
    refine (H1.out _ HL.out).mono ?_
    rintro e w2 ⟨v1, rfl, hz1, hb⟩
    obtain ⟨A1, c1, rfl, hy1⟩ := hz1.lies
    have HY1 := Lib.hid hy1
    replace HL := Lib.hid (HL.out.below hb)
    replace HB := Lib.hid (HB.out.trans (hb.mono HB.out.size))
    clear hz1 hy1 hb
    go_wp2_with fail
    refine (H2.out _ HL.out).mono ?_
    rintro e w3 ⟨v2, rfl, hz2, hb⟩
    obtain ⟨A2, c2, rfl, hy2⟩ := hz2.lies
    have HY2 := Lib.hid hy2
    replace HY1 := Lib.hid (HY1.out.below hb)
    replace HL := Lib.hid (HL.out.below hb)
    replace HB := Lib.hid (HB.out.trans (hb.mono HB.out.size))
    clear hz2 hy2 hb
    have HSI := Lib.hid (sameInts_any A1 A2 c1 c2 zs w3 HY1.out HY2.out (by omega))
    obtain ⟨n, hn⟩ : ∃ n, zs.length = n := ⟨_, rfl⟩
    have HN := Lib.hid hn
    rw [hn] at HSI h12 ⊢
    clear hn
    go_wp2_with fail
    refine HSI.out.mono ?_
    rintro e w4 ⟨rfl, hb⟩
    replace HY1 := Lib.hid (HY1.out.below hb)
    replace HL := Lib.hid (HL.out.below hb)
    replace HB := Lib.hid (HB.out.trans (hb.mono HB.out.size))
    clear hb HSI
    by_cases hn0 : n = 0
    · subst hn0
      go_wp2_with fail
      go_ret
      exact ⟨rfl, HB.out⟩
    · have e0 : ((n : Int) == 0) = false := by simp; omega
      go_wp2_with fail
      go_loopw [8] (fun i w5 => ∃ k : Nat, k ≤ n ∧ i = .int .i64 k ∧ Below w4.heap.size w4 w5) (fun i _ => n - (intOf i).toNat)
      case atStart => exact ⟨0, by omega, rfl, Below.refl _ _⟩
      case round =>
        obtain ⟨k, hk, rfl, hB5⟩ := hrel
        have HB5 := Lib.hid hB5
        by_cases hlt : k < n
        · have hkx : k < zs.length := by rw [HN.out]; exact hlt
          obtain ⟨b1, rfl, l1, hc1⟩ := HY1.out (by omega)
          obtain ⟨z, hz⟩ : ∃ z, zs[k]? = some z := ⟨_, List.getElem?_eq_getElem hkx⟩
          have a1 := (hB5.cell (p := ⟨b1, k, none⟩) l1).trans (hc1 k z hz)
          have h3 := H3.out z
          rw [HMM.out z (List.mem_of_getElem? hz)] at h3
          have H3z := Lib.hid h3
          clear h3
          have i0 : (0 : Int) ≤ (k : Int) := by omega
          have i1 : (k : Int) < (n : Int) := by omega
          have HSN := Lib.hid (fun m => by
            have hL5 := HL.out.below (w' := wr.drewN m) ⟨HB5.out.os, HB5.out.tape, HB5.out.output, HB5.out.size, HB5.out.block⟩
            exact H3z.out (wr.drewN m) hL5)
          by_cases hk0 : k = 0
          · have d0 : decide (0 < k) = false := by simp; omega
            clear hc1 hz hB5 hk0
            go_wp2_with fail
            go_quiet ((go_at_call 15; exact quiet_left (HSN.out _)))
            go_wp2_with fail
            go_roundw
            case rel => exact ⟨k + 1, by omega, by go_num, ⟨HB5.out.os, HB5.out.tape, HB5.out.output, HB5.out.size, HB5.out.block⟩⟩
            case measure => simp [intOf]; omega
          · obtain ⟨y, hy⟩ : ∃ y, zs[k - 1]? = some y := ⟨_, List.getElem?_eq_getElem (by omega)⟩
            have a2 := (hB5.cell (p := ⟨b1, k - 1, none⟩) l1).trans (hc1 (k - 1) y hy)
            have hyz : y < z := by
              obtain ⟨_, rfl⟩ := List.getElem?_eq_some_iff.1 hz
              obtain ⟨_, rfl⟩ := List.getElem?_eq_some_iff.1 hy
              exact List.pairwise_iff_getElem.1 HLT.out (k - 1) k (by omega) (by omega) (by omega)
            have d1 : decide (z ≤ y) = false := by simp; omega
            have d0 : decide (0 < k) = true := by simp; omega
            have j0 : (0 : Int) ≤ (k : Int) - 1 := by omega
            have j1 : (k : Int) - 1 < (n : Int) := by omega
            have j2 : IntKind.i64.wrap ((k : Int) - 1) = (k : Int) - 1 := IntWalk.i64_in _ (by omega)
            have j3 : ((k : Int) - 1).toNat = k - 1 := by omega
            clear hc1 hz hy hB5 hk0 hyz
            go_wp2_with fail
            go_quiet ((go_at_call 15; exact quiet_left (HSN.out _)))
            clear j2 j3
            go_wp2_with fail
            go_roundw
            case rel => exact ⟨k + 1, by omega, by go_num, ⟨HB5.out.os, HB5.out.tape, HB5.out.output, HB5.out.size, HB5.out.block⟩⟩
            case measure => simp [intOf]; omega
        · go_wp2_with fail
          go_ret
          exact ⟨rfl, HB.out.trans (hB5.mono HB.out.size)⟩

set_option maxRecDepth 100000 in
theorem contract (H : Type) (enc : TypeId × Value → H) (W : World) (base : Nat) (args : Array Value) (ds gs : List (DataW H)) (before : List MemPlace)
    (hval : ∀ (j : Nat) t v, Try.f4.params[j]? = some t → args[j]? = some v → Value.okWide Try.prog W .any base t v)
    (hW : DataW.Whole enc Try.prog Try.f4.params.toList Rows.fnFormNeedsSpec.vars false W args.toList ds gs before) :
    Calls Try.prog 4 args W fun e W' => ∃ v, e = .returned v ∧ Rows.fnFormNeedsSpec.post enc Try.prog Try.f4 false true false false W args v W' := by
  have hW' := hW
  obtain ⟨p, q, hA0, hV, rfl, hfz, hnd⟩ := hW
  have hA : DataW.TrodAll enc Try.prog W 0 (fun _ => true) true Try.f4.params.toList args.toList ds p := hA0
  rw [Try.params4] at hA hval
  obtain ⟨v0, vs0, d0, ds0, p0, q0, hargs, rfl, rfl, h0, r0⟩ := trodAll_cons hA
  obtain ⟨rfl, rfl, rfl⟩ := trodAll_nil r0
  obtain rfl : args = #[v0] := by cases args; simp_all
  obtain ⟨rfl, rfl⟩ := trodVars_none hV
  obtain ⟨A0, l0, c0, rfl, hs0, hc0⟩ := open_bytes (hval 0 _ v0 rfl rfl) h0 (fun x hx => by simpa using hW'.lt x (by simp [hx]))
  exact (walk A0 l0 c0 W hc0 hs0).mono fun e W' ⟨he, hB⟩ => ⟨_, he, law_post rfl rfl hW' laidOut (of_decide_eq_true (by kernel_rfl)) rfl Try.underlying4 hB⟩

set_option maxRecDepth 100000 in
theorem lifted (os : Os) (started : os.Started) (H : Type) (enc : TypeId × Value → H) :
    ReturnsInHanded {} Try.checked os 4 .any (Rows.fnFormNeedsSpec.pre6 enc Try.prog Try.f4 Rows.fnFormNeedsRow.domain false) (Rows.fnFormNeedsSpec.post enc Try.prog Try.f4 false true false false) := by
  refine returnsInHanded_of_change (C := Try.checked) own started (by kernel_rfl) Try.func4
    (ChangeSpec.witness6 (enc := enc) (C := Try.checked) false ⟨#[], #[.slice none 0 0], []⟩ 8 (by kernel_rfl) (by kernel_rfl) (by kernel_rfl) (by kernel_rfl)) ?_
  intro W base args ds gs before hval hW _ _
  exact contract H enc W base args ds gs before hval hW

set_option maxRecDepth 100000 in
theorem proved : Rows.FnFormNeedsSaid :=
  OpenClaim.holds_of_wide 4 Try.f4 rfl rfl rfl rfl rfl rfl rfl ⟨rfl, rfl, rfl, rfl, rfl⟩ rfl rfl rfl rfl rfl (by kernel_rfl) Try.func4 (by kernel_rfl)
    (of_decide_eq_true (by kernel_rfl)) (by unfold Func.isWrapper; first | (rw [if_pos (by decide +kernel)]; kernel_rfl) | (rw [if_neg (by decide +kernel)]; exact ⟨rfl, rfl⟩))
    (fun os started H enc _ => lifted os started H enc)
end Go.Proofs.Ytgejhjhjdepmmaa.fnFormNeeds
