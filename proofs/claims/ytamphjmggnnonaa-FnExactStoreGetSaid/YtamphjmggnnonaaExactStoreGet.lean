/- The law FnExactStoreGet answers true at every store and place, and leaves them as they were. No conditions. -/
import Derived.Test.YtamphjmggnnonaaSto10
import Derived.Test.YtamphjmggnnonaaMrk5
namespace Go.Proofs.Ytamphjmggnnonaa.fnExactStoreGet
open Go.Joins Go.ChangeShapes Go.WideShapes Go.ChangeAt Go.RowKit Go.Deep
set_option linter.unusedVariables false
set_option linter.unusedSimpArgs false

theorem getV_mem (xs : List Ce) (p : List Sl) : ∀ vs, getV xs p = some vs → ∃ x, x ∈ xs ∧ x.st = vs := by
  intro vs h
  unfold getV at h
  split at h
  · cases hx : xs[atS xs p]? with
    | none => rw [hx] at h; cases h
    | some x => rw [hx] at h; exact ⟨x, List.mem_of_getElem? hx, by injection h⟩
  · cases h
theorem eqSlots_n (A A' : Option Addr) (c c' n m : Nat) (xs ys : List Sl) (w : World) (hx : SlL w A xs) (hy : SlL w A' ys) (hn : xs.length = n) (hm : ys.length = m) (hl : n ≤ maxLen) (hl' : m ≤ maxLen) :
    Calls Try.prog 21 #[.slice A n c, .slice A' m c'] w fun e w' => e = .returned (.bool (eqSl xs ys)) ∧ Below w.heap.size w w' := by
  subst hn hm; exact eqSlots_any A A' c c' xs ys w hx hy hl hl'
set_option maxHeartbeats 8000000 in
theorem walk (A : Option Addr) (c : Nat) (xs : List Ce) (A' : Option Addr) (c' : Nat) (ps : List Sl) (w : World) (hs : xs.length ≤ maxLen) (hx : CeL w A xs) (hst : ∀ x ∈ xs, ∀ v ∈ x.st, v.s.size ≤ maxLen) (hs' : ps.length ≤ maxLen) (hy : SlL w A' ps) :
    Calls Try.prog 10 #[.slice A xs.length c, .slice A' ps.length c'] w fun e w' => e = .returned (.bool true) ∧ Below w.heap.size w w' := by
  have hz := szCells_any A c xs.length xs 1048576 w hx rfl hs hst (by omega) (by omega)
  have hm : xs.length ≤ maxLen := hs
  have hm' : ps.length ≤ maxLen := hs'
  unfold maxLen at hm hm'
  have hp := szCs_pos xs
  have HS := Lib.hid hs
  have HS' := Lib.hid hs'
  by_cases hl : (1048576 : Int) < xs.length + szCs xs
  · rw [leftV_neg hl] at hz
    have HZ := Lib.hid hz
    clear hz hp
    go_enter Try.func10, Try.ntmps10
    go_wp2_with (go_at_call 29; ((with_reducible refine HZ.out.mono ?_); rintro e w' ⟨rfl, hb⟩))
    go_ret
    exact ⟨rfl, hb⟩
  rw [leftV_pos (by omega)] at hz
  have HZ := Lib.hid hz
  obtain ⟨z, hzz⟩ : ∃ z, (1048576 : Int) - (xs.length + szCs xs) = z := ⟨_, rfl⟩
  have hz0 : 0 ≤ z := by omega
  have hzb : z ≤ 1048576 := by omega
  have hzs := szSlots_any A' ps.length c' z
  rw [hzz] at HZ
  by_cases hl' : z < ps.length
  · simp only [if_pos hl'] at hzs
    have HZS := Lib.hid hzs
    clear hz hp hzz hzs
    go_enter Try.func10, Try.ntmps10
    go_wp2_with (first
      | (go_at_call 29; ((with_reducible refine HZ.out.mono ?_); rintro e w' ⟨rfl, hb⟩))
      | (go_at_call 17; ((with_reducible refine (HZS.out _ hzb hz0 HS'.out).mono ?_); rintro e w' ⟨rfl, rfl⟩)))
    go_ret
    exact ⟨rfl, hb⟩
  simp only [if_neg hl'] at hzs
  have HZS := Lib.hid hzs
  have HX := Lib.hid hx
  have HY := Lib.hid hy
  have HS2 := Lib.hid (show ∀ x ∈ xs, x.pl.length ≤ 1048576 ∧ x.st.length ≤ 1048576 from fun x h => by have := szCs_mem h (show xs.length + szCs xs ≤ (1048576 : Int) by omega); omega)
  have HL2 := Lib.hid (show xs.length ≤ 1048576 by omega)
  have HM2 := Lib.hid (show ps.length ≤ 1048576 by omega)
  have ht := totC_le xs
  have htb : 1 + totC xs ≤ 50000000 := by omega
  obtain ⟨t, htt⟩ : ∃ t, 1 + totC xs = t := ⟨_, rfl⟩
  obtain ⟨t2, htt2⟩ : ∃ t2, t + 2 * ps.length = t2 := ⟨_, rfl⟩
  have htb2 : t ≤ 10000000 := by omega
  have HTB := Lib.hid htb
  have HTT := Lib.hid htt
  have HT2 := Lib.hid htt2
  have HTB2 := Lib.hid htb2
  obtain ⟨n, hn⟩ : ∃ n, xs.length = n := ⟨_, rfl⟩
  obtain ⟨m, hmm⟩ : ∃ m, ps.length = m := ⟨_, rfl⟩
  have HN := Lib.hid hn
  have HM := Lib.hid hmm
  have hzm : (m : Int) ≤ z := by omega
  have HZM := Lib.hid hzm
  rw [hn] at HL2 HZ HS ⊢
  rw [hmm] at HM2 HZS HS' HT2 ⊢
  have HL := HS
  have HL' := HS'
  have k2 := fun A A' c c' w hx hp => sget_any A A' c c' n m xs ps w hx hp HN.out HM.out HS.out HS'.out (fun x hx => by have := HS2.out x hx; omega)
  have k3 := fun A A' c c' w hx hp => iget_any A A' c c' n m xs ps w hx hp HN.out HM.out HS.out HS'.out (fun x hx => by have := HS2.out x hx; omega)
  have hgm := getV_mem xs ps
  clear hz hx hs hst hs' hy hl hl' hn hmm hm hm' hp hzz hzs ht htb htt htt2 htb2
  cases hv : getV xs ps
  · rw [hv] at k2 k3
    have K2 := Lib.hid k2
    have K3 := Lib.hid k3
    clear k2 k3 hv hgm
    all_goals
      go_enter Try.func10, Try.ntmps10
      go_wp2_with (first
        | (go_at_call 29; ((with_reducible refine HZ.out.mono ?_); rintro e w1 ⟨rfl, hb⟩); have hz1 := hb.size; have HB1 := Lib.hid hb; clear hb)
        | (go_at_call 17; ((with_reducible refine (HZS.out _ hzb hz0 HS'.out).mono ?_); rintro e w' ⟨rfl, rfl⟩)))
      refine (toCells_any A c n xs _ (HX.out.below HB1.out) HN.out HL2.out HS2.out).mono ?_
      rintro e w2 ⟨G2, L2, rfl, hr, hce, hb⟩
      have hz2 := hb.size
      have C1 := Lib.hid (CeN.of_own hr hce HN.out HS2.out)
      have HB2 := Lib.hid (more HB1.out (Nat.le_refl _) hb)
      clear hr hce hb
      go_wp2_with fail
      refine (toSlots_n A' c' m ps _ (HY.out.below HB2.out) HM.out HM2.out).mono ?_
      rintro e w3 ⟨rfl, ho, hb⟩
      replace C1 := Lib.hid (C1.out.below hb)
      have hz3 := hb.size
      have S1 := Lib.hid (Lie.of_own (c := Sl.cells) (fun _ => rfl) ho)
      have HB3 := Lib.hid (more HB2.out (Nat.le_refl _) hb)
      clear ho hb
      go_wp2_with fail
      refine (K2.out _ _ _ _ _ C1.out S1.out).mono ?_
      rintro e w4 ⟨hb, rfl⟩
      replace C1 := Lib.hid (C1.out.below hb)
      replace S1 := Lib.hid (S1.out.below hb)
      have hz4 := hb.size
      have HB4 := Lib.hid (more HB3.out (Nat.le_refl _) hb)
      clear hb
      go_wp2_with fail
      refine (toCells_any A c n xs _ (HX.out.below HB4.out) HN.out HL2.out HS2.out).mono ?_
      rintro e w5 ⟨G5, L5, rfl, hr, hce, hb⟩
      have hz5 := hb.size
      have X0 := Lib.hid (hr)
      have X0C := Lib.hid (hce)
      have X0B := Lib.hid (fun (j : Nat) (hj : j < 2 * n) => (hce.lt (by rw [HN.out]; exact Nat.le_refl _) hj).2)
      have HB5 := Lib.hid (more HB4.out (Nat.le_refl _) hb)
      clear hr hce hb
      go_wp2_with fail
      refine (toSlots_n A' c' m ps _ (HY.out.below HB5.out) HM.out HM2.out).mono ?_
      rintro e w6 ⟨rfl, ho, hb⟩
      replace X0 := Lib.hid (ownsRow_below X0.out hb)
      replace X0C := Lib.hid (X0C.out.below hb)
      have hz6 := hb.size
      have X1 := Lib.hid (ho)
      have X1l := (ho.lt _ rfl).2
      have HB6 := Lib.hid (more HB5.out (Nat.le_refl _) hb)
      clear ho hb
      go_wp2_with fail
      refine (K3.out _ _ _ _ _ (CeN.of_own X0.out X0C.out HN.out HS2.out) (Lie.of_own (c := Sl.cells) (fun _ => rfl) X1.out)).mono ?_
      rintro e w7 ⟨hb, rfl⟩
      replace X0 := Lib.hid (ownsRow_below X0.out hb)
      replace X0C := Lib.hid (X0C.out.below hb)
      replace X1 := Lib.hid (ownsRow_below X1.out hb)
      have hz7 := hb.size
      have HB7 := Lib.hid (more HB6.out (Nat.le_refl _) hb)
      clear hb
      go_wp2_with fail
      refine (eqVals_any none none 0 0 0 0 [] [] _ Lie.nil Lie.nil rfl rfl (by decide) (by decide)).mono ?_
      rw [eqVs_refl]
      rintro e w8 ⟨rfl, hb⟩
      replace X0 := Lib.hid (ownsRow_below X0.out hb)
      replace X0C := Lib.hid (X0C.out.below hb)
      replace X1 := Lib.hid (ownsRow_below X1.out hb)
      have hz8 := hb.size
      have HB8 := Lib.hid (more HB7.out (Nat.le_refl _) hb)
      clear hb
      go_wp2_with fail
      refine (toCells_any A c n xs _ (HX.out.below HB8.out) HN.out HL2.out HS2.out).mono ?_
      rintro e w9 ⟨G9, L9, rfl, hr, hce, hb⟩
      replace X0 := Lib.hid (ownsRow_below X0.out hb)
      replace X0C := Lib.hid (X0C.out.below hb)
      replace X1 := Lib.hid (ownsRow_below X1.out hb)
      have hz9 := hb.size
      have C2 := Lib.hid (CeN.of_own hr hce HN.out HS2.out)
      have HB9 := Lib.hid (more HB8.out (Nat.le_refl _) hb)
      clear hr hce hb
      go_wp2_with fail
      refine (eqCells_any _ _ _ _ n n xs xs _ (CeL.of_own X0.out X0C.out HN.out HS2.out) C2.out.cel HN.out HN.out HL.out HL.out).mono ?_
      rw [eqCs_refl]
      rintro e w10 ⟨rfl, hb⟩
      replace X0 := Lib.hid (ownsRow_below X0.out hb)
      replace X0C := Lib.hid (X0C.out.below hb)
      replace X1 := Lib.hid (ownsRow_below X1.out hb)
      replace C2 := Lib.hid (C2.out.below hb)
      have hz10 := hb.size
      have HB10 := Lib.hid (more HB9.out (Nat.le_refl _) hb)
      clear hb
      go_wp2_with fail
      refine (toSlots_n A' c' m ps _ (HY.out.below HB10.out) HM.out HM2.out).mono ?_
      rintro e w11 ⟨rfl, ho, hb⟩
      replace X0 := Lib.hid (ownsRow_below X0.out hb)
      replace X0C := Lib.hid (X0C.out.below hb)
      replace X1 := Lib.hid (ownsRow_below X1.out hb)
      have hz11 := hb.size
      have S2 := Lib.hid (Lie.of_own (c := Sl.cells) (fun _ => rfl) ho)
      have HB11 := Lib.hid (more HB10.out (Nat.le_refl _) hb)
      clear ho hb
      go_wp2_with fail
      refine (eqSlots_n _ _ _ _ m m ps ps _ (Lie.of_own (c := Sl.cells) (fun _ => rfl) X1.out) S2.out HM.out HM.out HL'.out HL'.out).mono ?_
      rw [eqSl_refl]
      rintro e w12 ⟨rfl, hb⟩
      replace X0 := Lib.hid (ownsRow_below X0.out hb)
      replace X0C := Lib.hid (X0C.out.below hb)
      replace X1 := Lib.hid (ownsRow_below X1.out hb)
      replace S2 := Lib.hid (S2.out.below hb)
      have hz12 := hb.size
      have HB12 := Lib.hid (more HB11.out (Nat.le_refl _) hb)
      clear hb
      go_wp2_with fail
      refine (markCells_r w4.heap.size n w4.heap.size 1 n (w4.heap.size + 1) w5.heap.size t G5 L5 xs _ X0.out X0C.out HN.out HL2.out (Nat.lt_succ_self _) X0B.out HS2.out HTB.out (by omega) HTT.out).mono ?_
      rintro e w13 ⟨rfl, ho, hc, ht⟩
      replace X1 := Lib.hid (Turn.own ht X1.out (.inr (Nat.le_refl _)))
      have hz13 := ht.size
      have HB13 := Lib.hid (HB12.out.trans (ht.below (by omega) (by omega)))
      clear ho hc ht
      go_wp2_with fail
      refine (markSlots_r w5.heap.size m w5.heap.size t m t2 ps _ X1.out HM.out HM2.out (by have := HTB2.out; omega) HT2.out).mono ?_
      rintro e w14 ⟨rfl, ho, hgr⟩
      have hz14 := hgr.size
      have HB14 := Lib.hid (HB13.out.grown hgr (by omega) (fun k hk => by injection hk with hk; omega))
      clear ho hgr
      go_wp2_with fail
      refine (eqVals_any none none 0 0 0 0 [] [] _ Lie.nil Lie.nil rfl rfl (by decide) (by decide)).mono ?_
      rw [eqVs_refl]
      rintro e w15 ⟨rfl, hb⟩
      have hz15 := hb.size
      have HB15 := Lib.hid (more HB14.out (Nat.le_refl _) hb)
      clear hb
      go_wp2_with fail
      refine (markVals_nil _ _).mono ?_
      rintro e wq ⟨rfl, rfl⟩
      go_wp2_with fail
      refine (heldVals_nil _ _).mono ?_
      rintro e wq ⟨rfl, rfl⟩
      go_wp2_with fail
      refine (toCells_any A c n xs _ (HX.out.below HB15.out) HN.out HL2.out HS2.out).mono ?_
      rintro e w16 ⟨G16, L16, rfl, hr, hce, hb⟩
      have hz16 := hb.size
      have C3 := Lib.hid (CeN.of_own hr hce HN.out HS2.out)
      have HB16 := Lib.hid (more HB15.out (Nat.le_refl _) hb)
      clear hr hce hb
      go_wp2_with fail
      refine (toSlots_n A' c' m ps _ (HY.out.below HB16.out) HM.out HM2.out).mono ?_
      rintro e w17 ⟨rfl, ho, hb⟩
      replace C3 := Lib.hid (C3.out.below hb)
      have hz17 := hb.size
      have S3 := Lib.hid (Lie.of_own (c := Sl.cells) (fun _ => rfl) ho)
      have HB17 := Lib.hid (more HB16.out (Nat.le_refl _) hb)
      clear ho hb
      go_wp2_with fail
      refine (K3.out _ _ _ _ _ C3.out S3.out).mono ?_
      rintro e w18 ⟨hb, rfl⟩
      replace C3 := Lib.hid (C3.out.below hb)
      replace S3 := Lib.hid (S3.out.below hb)
      have hz18 := hb.size
      have HB18 := Lib.hid (more HB17.out (Nat.le_refl _) hb)
      clear hb
      go_wp2_with fail
      refine (eqVals_any none none 0 0 0 0 [] [] _ Lie.nil Lie.nil rfl rfl (by decide) (by decide)).mono ?_
      rw [eqVs_refl]
      rintro e w19 ⟨rfl, hb⟩
      have hz19 := hb.size
      have HB19 := Lib.hid (more HB18.out (Nat.le_refl _) hb)
      clear hb
      go_wp2_with fail
      refine (heldVals_nil _ _).mono ?_
      rintro e wq ⟨rfl, rfl⟩
      go_wp2_with fail
      go_ret
      exact ⟨rfl, HB19.out⟩
  · rename_i vs
    obtain ⟨xv, hxm, hxs⟩ := hgm vs hv
    have hvl : vs.length ≤ 1048576 := by rw [← hxs]; exact (HS2.out xv hxm).2
    have HVL := Lib.hid hvl
    have HVM := Lib.hid (show vs.length ≤ maxLen by unfold maxLen; omega)
    obtain ⟨t3, ht3⟩ : ∃ t3, 1 + 3 * vs.length = t3 := ⟨_, rfl⟩
    have HT3 := Lib.hid ht3
    rw [hv] at k2 k3
    have K2 := Lib.hid k2
    have K3 := Lib.hid k3
    clear k2 k3 hv hgm hxm hxs hvl ht3
    all_goals
      go_enter Try.func10, Try.ntmps10
      go_wp2_with (first
        | (go_at_call 29; ((with_reducible refine HZ.out.mono ?_); rintro e w1 ⟨rfl, hb⟩); have hz1 := hb.size; have HB1 := Lib.hid hb; clear hb)
        | (go_at_call 17; ((with_reducible refine (HZS.out _ hzb hz0 HS'.out).mono ?_); rintro e w' ⟨rfl, rfl⟩)))
      refine (toCells_any A c n xs _ (HX.out.below HB1.out) HN.out HL2.out HS2.out).mono ?_
      rintro e w2 ⟨G2, L2, rfl, hr, hce, hb⟩
      have hz2 := hb.size
      have C1 := Lib.hid (CeN.of_own hr hce HN.out HS2.out)
      have HB2 := Lib.hid (more HB1.out (Nat.le_refl _) hb)
      clear hr hce hb
      go_wp2_with fail
      refine (toSlots_n A' c' m ps _ (HY.out.below HB2.out) HM.out HM2.out).mono ?_
      rintro e w3 ⟨rfl, ho, hb⟩
      replace C1 := Lib.hid (C1.out.below hb)
      have hz3 := hb.size
      have S1 := Lib.hid (Lie.of_own (c := Sl.cells) (fun _ => rfl) ho)
      have HB3 := Lib.hid (more HB2.out (Nat.le_refl _) hb)
      clear ho hb
      go_wp2_with fail
      refine (K2.out _ _ _ _ _ C1.out S1.out).mono ?_
      rintro e w4 ⟨hb, b0, b0c, rfl, ho⟩
      replace C1 := Lib.hid (C1.out.below hb)
      replace S1 := Lib.hid (S1.out.below hb)
      have hz4 := hb.size
      have W0 := Lib.hid (ho)
      have b0l := ho.lt
      have HB4 := Lib.hid (more HB3.out (Nat.le_refl _) hb)
      clear hb ho
      go_wp2_with fail
      refine (toCells_any A c n xs _ (HX.out.below HB4.out) HN.out HL2.out HS2.out).mono ?_
      rintro e w5 ⟨G5, L5, rfl, hr, hce, hb⟩
      replace W0 := Lib.hid (ownsRow_below W0.out hb)
      have hz5 := hb.size
      have X0 := Lib.hid (hr)
      have X0C := Lib.hid (hce)
      have X0B := Lib.hid (fun (j : Nat) (hj : j < 2 * n) => (hce.lt (by rw [HN.out]; exact Nat.le_refl _) hj).2)
      have HB5 := Lib.hid (more HB4.out (Nat.le_refl _) hb)
      clear hr hce hb
      go_wp2_with fail
      refine (toSlots_n A' c' m ps _ (HY.out.below HB5.out) HM.out HM2.out).mono ?_
      rintro e w6 ⟨rfl, ho, hb⟩
      replace W0 := Lib.hid (ownsRow_below W0.out hb)
      replace X0 := Lib.hid (ownsRow_below X0.out hb)
      replace X0C := Lib.hid (X0C.out.below hb)
      have hz6 := hb.size
      have X1 := Lib.hid (ho)
      have X1l := (ho.lt _ rfl).2
      have HB6 := Lib.hid (more HB5.out (Nat.le_refl _) hb)
      clear ho hb
      go_wp2_with fail
      refine (K3.out _ _ _ _ _ (CeN.of_own X0.out X0C.out HN.out HS2.out) (Lie.of_own (c := Sl.cells) (fun _ => rfl) X1.out)).mono ?_
      rintro e w7 ⟨hb, b1, b1c, rfl, ho⟩
      replace W0 := Lib.hid (ownsRow_below W0.out hb)
      replace X0 := Lib.hid (ownsRow_below X0.out hb)
      replace X0C := Lib.hid (X0C.out.below hb)
      replace X1 := Lib.hid (ownsRow_below X1.out hb)
      have hz7 := hb.size
      have G0 := Lib.hid (ho)
      have b1l := ho.lt
      have HB7 := Lib.hid (more HB6.out (Nat.le_refl _) hb)
      clear hb ho
      go_wp2_with fail
      refine (eqVals_any (some ⟨b1, 0, none⟩) (some ⟨b0, 0, none⟩) b1c b0c vs.length vs.length vs vs _ (OwnV.lies G0.out) (OwnV.lies W0.out) rfl rfl HVM.out HVM.out).mono ?_
      rw [eqVs_refl]
      rintro e w8 ⟨rfl, hb⟩
      replace W0 := Lib.hid (ownsRow_below W0.out hb)
      replace X0 := Lib.hid (ownsRow_below X0.out hb)
      replace X0C := Lib.hid (X0C.out.below hb)
      replace X1 := Lib.hid (ownsRow_below X1.out hb)
      replace G0 := Lib.hid (ownsRow_below G0.out hb)
      have hz8 := hb.size
      have HB8 := Lib.hid (more HB7.out (Nat.le_refl _) hb)
      clear hb
      go_wp2_with fail
      refine (toCells_any A c n xs _ (HX.out.below HB8.out) HN.out HL2.out HS2.out).mono ?_
      rintro e w9 ⟨G9, L9, rfl, hr, hce, hb⟩
      replace W0 := Lib.hid (ownsRow_below W0.out hb)
      replace X0 := Lib.hid (ownsRow_below X0.out hb)
      replace X0C := Lib.hid (X0C.out.below hb)
      replace X1 := Lib.hid (ownsRow_below X1.out hb)
      replace G0 := Lib.hid (ownsRow_below G0.out hb)
      have hz9 := hb.size
      have C2 := Lib.hid (CeN.of_own hr hce HN.out HS2.out)
      have HB9 := Lib.hid (more HB8.out (Nat.le_refl _) hb)
      clear hr hce hb
      go_wp2_with fail
      refine (eqCells_any _ _ _ _ n n xs xs _ (CeL.of_own X0.out X0C.out HN.out HS2.out) C2.out.cel HN.out HN.out HL.out HL.out).mono ?_
      rw [eqCs_refl]
      rintro e w10 ⟨rfl, hb⟩
      replace W0 := Lib.hid (ownsRow_below W0.out hb)
      replace X0 := Lib.hid (ownsRow_below X0.out hb)
      replace X0C := Lib.hid (X0C.out.below hb)
      replace X1 := Lib.hid (ownsRow_below X1.out hb)
      replace G0 := Lib.hid (ownsRow_below G0.out hb)
      replace C2 := Lib.hid (C2.out.below hb)
      have hz10 := hb.size
      have HB10 := Lib.hid (more HB9.out (Nat.le_refl _) hb)
      clear hb
      go_wp2_with fail
      refine (toSlots_n A' c' m ps _ (HY.out.below HB10.out) HM.out HM2.out).mono ?_
      rintro e w11 ⟨rfl, ho, hb⟩
      replace W0 := Lib.hid (ownsRow_below W0.out hb)
      replace X0 := Lib.hid (ownsRow_below X0.out hb)
      replace X0C := Lib.hid (X0C.out.below hb)
      replace X1 := Lib.hid (ownsRow_below X1.out hb)
      replace G0 := Lib.hid (ownsRow_below G0.out hb)
      have hz11 := hb.size
      have S2 := Lib.hid (Lie.of_own (c := Sl.cells) (fun _ => rfl) ho)
      have HB11 := Lib.hid (more HB10.out (Nat.le_refl _) hb)
      clear ho hb
      go_wp2_with fail
      refine (eqSlots_n _ _ _ _ m m ps ps _ (Lie.of_own (c := Sl.cells) (fun _ => rfl) X1.out) S2.out HM.out HM.out HL'.out HL'.out).mono ?_
      rw [eqSl_refl]
      rintro e w12 ⟨rfl, hb⟩
      replace W0 := Lib.hid (ownsRow_below W0.out hb)
      replace X0 := Lib.hid (ownsRow_below X0.out hb)
      replace X0C := Lib.hid (X0C.out.below hb)
      replace X1 := Lib.hid (ownsRow_below X1.out hb)
      replace G0 := Lib.hid (ownsRow_below G0.out hb)
      replace S2 := Lib.hid (S2.out.below hb)
      have hz12 := hb.size
      have HB12 := Lib.hid (more HB11.out (Nat.le_refl _) hb)
      clear hb
      go_wp2_with fail
      refine (markCells_r w4.heap.size n w4.heap.size 1 n (w4.heap.size + 1) w5.heap.size t G5 L5 xs _ X0.out X0C.out HN.out HL2.out (Nat.lt_succ_self _) X0B.out HS2.out HTB.out (by omega) HTT.out).mono ?_
      rintro e w13 ⟨rfl, ho, hc, ht⟩
      replace W0 := Lib.hid (Turn.own ht W0.out (.inl (by omega)))
      replace X1 := Lib.hid (Turn.own ht X1.out (.inr (Nat.le_refl _)))
      replace G0 := Lib.hid (Turn.own ht G0.out (.inr (by omega)))
      have hz13 := ht.size
      have HB13 := Lib.hid (HB12.out.trans (ht.below (by omega) (by omega)))
      clear ho hc ht
      go_wp2_with fail
      refine (markSlots_r w5.heap.size m w5.heap.size t m t2 ps _ X1.out HM.out HM2.out (by have := HTB2.out; omega) HT2.out).mono ?_
      rintro e w14 ⟨rfl, ho, hgr⟩
      replace W0 := Lib.hid (World.ownsRow.kept W0.out hgr (.inr (by simp [Value.ownBlock]; omega)))
      replace G0 := Lib.hid (World.ownsRow.kept G0.out hgr (.inr (by simp [Value.ownBlock]; omega)))
      have hz14 := hgr.size
      have HB14 := Lib.hid (HB13.out.grown hgr (by omega) (fun k hk => by injection hk with hk; omega))
      clear ho hgr
      go_wp2_with fail
      refine (eqVals_any (some ⟨b1, 0, none⟩) (some ⟨b0, 0, none⟩) b1c b0c vs.length vs.length vs vs _ (OwnV.lies G0.out) (OwnV.lies W0.out) rfl rfl HVM.out HVM.out).mono ?_
      rw [eqVs_refl]
      rintro e w15 ⟨rfl, hb⟩
      replace W0 := Lib.hid (ownsRow_below W0.out hb)
      replace G0 := Lib.hid (ownsRow_below G0.out hb)
      have hz15 := hb.size
      have HB15 := Lib.hid (more HB14.out (Nat.le_refl _) hb)
      clear hb
      go_wp2_with fail
      refine (markVals_r b1 b1c w6.heap.size 1 vs.length t3 vs _ G0.out rfl HVL.out (by omega) (by omega) HT3.out).mono ?_
      rintro e w16 ⟨rfl, ho, hgr⟩
      replace W0 := Lib.hid (World.ownsRow.kept W0.out hgr (.inr (by simp [Value.ownBlock]; omega)))
      have hz16 := hgr.size
      have G0 := Lib.hid (ho)
      have HB16 := Lib.hid (HB15.out.grown hgr (by omega) (fun k hk => by injection hk with hk; omega))
      clear ho hgr
      go_wp2_with fail
      refine (heldVals_r (some ⟨b1, 0, none⟩) b1c 1 vs.length t3 vs _ (Lie.of_own (c := Va.cells) (m := vs.length) (fun _ => rfl) G0.out) rfl HVL.out (by omega) (by omega) HT3.out).mono ?_
      rintro e w17 ⟨rfl, hb⟩
      replace W0 := Lib.hid (ownsRow_below W0.out hb)
      replace G0 := Lib.hid (ownsRow_below G0.out hb)
      have hz17 := hb.size
      have HB17 := Lib.hid (more HB16.out (Nat.le_refl _) hb)
      clear hb
      go_wp2_with fail
      refine (toCells_any A c n xs _ (HX.out.below HB17.out) HN.out HL2.out HS2.out).mono ?_
      rintro e w18 ⟨G18, L18, rfl, hr, hce, hb⟩
      replace W0 := Lib.hid (ownsRow_below W0.out hb)
      replace G0 := Lib.hid (ownsRow_below G0.out hb)
      have hz18 := hb.size
      have C3 := Lib.hid (CeN.of_own hr hce HN.out HS2.out)
      have HB18 := Lib.hid (more HB17.out (Nat.le_refl _) hb)
      clear hr hce hb
      go_wp2_with fail
      refine (toSlots_n A' c' m ps _ (HY.out.below HB18.out) HM.out HM2.out).mono ?_
      rintro e w19 ⟨rfl, ho, hb⟩
      replace W0 := Lib.hid (ownsRow_below W0.out hb)
      replace G0 := Lib.hid (ownsRow_below G0.out hb)
      replace C3 := Lib.hid (C3.out.below hb)
      have hz19 := hb.size
      have S3 := Lib.hid (Lie.of_own (c := Sl.cells) (fun _ => rfl) ho)
      have HB19 := Lib.hid (more HB18.out (Nat.le_refl _) hb)
      clear ho hb
      go_wp2_with fail
      refine (K3.out _ _ _ _ _ C3.out S3.out).mono ?_
      rintro e w20 ⟨hb, b2, b2c, rfl, ho⟩
      replace W0 := Lib.hid (ownsRow_below W0.out hb)
      replace G0 := Lib.hid (ownsRow_below G0.out hb)
      replace C3 := Lib.hid (C3.out.below hb)
      replace S3 := Lib.hid (S3.out.below hb)
      have hz20 := hb.size
      have H0 := Lib.hid (ho)
      have b2l := ho.lt
      have HB20 := Lib.hid (more HB19.out (Nat.le_refl _) hb)
      clear hb ho
      go_wp2_with fail
      refine (eqVals_any (some ⟨b2, 0, none⟩) (some ⟨b0, 0, none⟩) b2c b0c vs.length vs.length vs vs _ (OwnV.lies H0.out) (OwnV.lies W0.out) rfl rfl HVM.out HVM.out).mono ?_
      rw [eqVs_refl]
      rintro e w21 ⟨rfl, hb⟩
      replace W0 := Lib.hid (ownsRow_below W0.out hb)
      replace G0 := Lib.hid (ownsRow_below G0.out hb)
      replace H0 := Lib.hid (ownsRow_below H0.out hb)
      have hz21 := hb.size
      have HB21 := Lib.hid (more HB20.out (Nat.le_refl _) hb)
      clear hb
      go_wp2_with fail
      refine (heldVals_r (some ⟨b1, 0, none⟩) b1c 1 vs.length t3 vs _ (Lie.of_own (c := Va.cells) (m := vs.length) (fun _ => rfl) G0.out) rfl HVL.out (by omega) (by omega) HT3.out).mono ?_
      rintro e w22 ⟨rfl, hb⟩
      replace W0 := Lib.hid (ownsRow_below W0.out hb)
      replace G0 := Lib.hid (ownsRow_below G0.out hb)
      replace H0 := Lib.hid (ownsRow_below H0.out hb)
      have hz22 := hb.size
      have HB22 := Lib.hid (more HB21.out (Nat.le_refl _) hb)
      clear hb
      go_wp2_with fail
      go_ret
      exact ⟨rfl, HB22.out⟩

set_option maxRecDepth 100000 in
theorem contract (H : Type) (enc : TypeId × Value → H) (W : World) (base : Nat) (args : Array Value) (ds gs : List (DataW H)) (before : List MemPlace)
    (hval : ∀ (j : Nat) t v, Try.f10.params[j]? = some t → args[j]? = some v → Value.okWide Try.prog W .any base t v)
    (hW : DataW.Whole enc Try.prog Try.f10.params.toList Rows.fnExactStoreGetSpec.vars false W args.toList ds gs before) :
    Calls Try.prog 10 args W fun e W' => ∃ v, e = .returned v ∧ Rows.fnExactStoreGetSpec.post enc Try.prog Try.f10 false true false false W args v W' := by
  have hW' := hW
  obtain ⟨p, q, hA0, hV, rfl, hfz, hnd⟩ := hW
  have hA : DataW.TrodAll enc Try.prog W 0 (fun _ => true) true Try.f10.params.toList args.toList ds p := hA0
  rw [Try.params10] at hA hval
  obtain ⟨v0, vs0, d0, ds0, p0, q0, hargs, rfl, rfl, h0, r0⟩ := trodAll_cons hA
  obtain ⟨v1, vs1, d1, ds1, p1, q1, rfl, rfl, rfl, h1, r1⟩ := trodAll_cons r0
  obtain ⟨rfl, rfl, rfl⟩ := trodAll_nil r1
  obtain rfl : args = #[v0, v1] := by cases args; simp_all
  obtain ⟨rfl, rfl⟩ := trodVars_none hV
  obtain ⟨A0, c0, xs0, rfl, hs0, hcap0, hx0, hst0⟩ := open_cells (hval 0 _ v0 rfl rfl) h0 (fun x hx => by simpa using hW'.lt x (by simp [hx]))
  obtain ⟨A1, c1, xs1, rfl, hs1, hcap1, hx1⟩ := open_slots (hval 1 _ v1 rfl rfl) h1 (fun x hx => by simpa using hW'.lt x (by simp [hx]))
  exact (walk A0 c0 xs0 A1 c1 xs1 W hs0 hx0 hst0 hs1 hx1).mono fun e W' ⟨he, hB⟩ => ⟨_, he, law_post rfl rfl hW' laidOut (of_decide_eq_true (by kernel_rfl)) rfl Try.underlying4 hB⟩

set_option maxRecDepth 100000 in
theorem lifted (os : Os) (started : os.Started) (H : Type) (enc : TypeId × Value → H) :
    ReturnsInHanded {} Try.checked os 10 .any (Rows.fnExactStoreGetSpec.pre6 enc Try.prog Try.f10 Rows.fnExactStoreGetRow.domain false) (Rows.fnExactStoreGetSpec.post enc Try.prog Try.f10 false true false false) := by
  refine returnsInHanded_of_change (C := Try.checked) own started (by kernel_rfl) Try.func10
    (ChangeSpec.witness6 (enc := enc) (C := Try.checked) false ⟨#[], #[.slice none 0 0, .slice none 0 0], []⟩ 8 (by kernel_rfl) (by kernel_rfl) (by kernel_rfl) (by kernel_rfl)) ?_
  intro W base args ds gs before hval hW _ _
  exact contract H enc W base args ds gs before hval hW

set_option maxRecDepth 100000 in
theorem proved : Rows.FnExactStoreGetSaid :=
  OpenClaim.holds_of_wide 10 Try.f10 rfl rfl rfl rfl rfl rfl rfl ⟨rfl, rfl, rfl, rfl, rfl⟩ rfl rfl rfl rfl rfl (by kernel_rfl) Try.func10 (by kernel_rfl)
    (of_decide_eq_true (by kernel_rfl)) (by unfold Func.isWrapper; first | (rw [if_pos (by decide +kernel)]; kernel_rfl) | (rw [if_neg (by decide +kernel)]; exact ⟨rfl, rfl⟩))
    (fun os started H enc _ => lifted os started H enc)
end Go.Proofs.Ytamphjmggnnonaa.fnExactStoreGet
